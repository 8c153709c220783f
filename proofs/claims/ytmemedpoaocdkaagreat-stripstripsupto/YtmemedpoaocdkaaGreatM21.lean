/- Texts of this claim, one behind the other. -/
import Derived.Test.YtmemedpoaocdkaaGreatM20
import Derived.Maps.RangeWalk
namespace Go.Proofs.YtmemedpoaocdkaaGreat
open Go.RowKit Go.Shelf Go.Maps
set_option linter.unusedVariables false
set_option maxRecDepth 100000
set_option maxHeartbeats 8000000
def zoD (x:Option (Int × Int × Int)):Value := .tuple #[.int .i32 ((x.map (·.2.1)).getD 0),.int .i32 ((x.map (·.2.2)).getD 0),.bool x.isSome]
theorem zhB {T:TV} (hO:zav T) (B:Nat) (r:Int) (hr:R32 r) (w:World) (h:BookAt w B T):Calls Tryz.prog 188 #[.pointer (some ⟨B,0,none⟩),.int .i32 r] w fun e w' =>e=.returned (zoD (zbC T r))∧Below w.heap.size w w':=by
 obtain ⟨M,n,c0,hs⟩:=h.pas
 have hl:=zkj hO hs hr
 unfold zoD zrf at *
 generalize ((zbC T r).map (·.2.1)).getD 0=x1 at *
 generalize ((zbC T r).map (·.2.2)).getD 0=x2 at *
 generalize (zbC T r).isSome=ok at *
 have bP:=Blk.new w #[.int .i32 x1,.int .i32 x2] 134
 have q0:=bP.cell 0
 have q1:=bP.cell 1
 have HB:Hz (Below w.heap.size w (w.alloc (.cells #[.int .i32 x1,.int .i32 x2] 134))):=kz ((Below.refl _ w).alloc (Nat.le_refl _) _)
 clear hs h hO hr bP
 go_enter Tryz.func188,Tryz.ntmps188
 go_wp2_with fail
 generalize w.alloc (.cells #[.int .i32 x1,.int .i32 x2] 134)=w1 at *
 go_quiet (fail)
 go_wp2_with fail
 exact bodyPost_ret (v := .tuple #[.int .i32 x1,.int .i32 x2,.bool ok]) (by simp [results,Tryz.results188,go_sem]) rfl ⟨rfl,(oz HB).trans ⟨rfl,rfl,rfl,Nat.le_refl _,fun _ _ =>rfl⟩⟩
theorem zdE {T:TV} (hO:zav T) (B:Nat) (r:Int) (hr:R32 r) (w:World) (h:BookAt w B T):Calls Tryz.prog 142 #[.pointer (some ⟨B,0,none⟩),.int .i32 r] w fun e w' =>e=.returned (.bool (za7 T r || zdn T r))∧Below w.heap.size w w':=by
 obtain ⟨M,n,c0,hs⟩:=h.pas
 have hl:=zkj hO hs hr
 rw [zlP] at hl
 have hcm:=zey hO r
 unfold zrf at *
 generalize ((zbC T r).map (·.2.1)).getD 0=x1 at *
 generalize ((zbC T r).map (·.2.2)).getD 0=x2 at *
 have hB:Below w.heap.size w (w.alloc (.cells #[.int .i32 x1,.int .i32 x2] 134)):=(Below.refl _ w).alloc (Nat.le_refl _) _
 have HC:=kz (zdS hO B r hr _ (h.below hB))
 have HB:=kz hB
 have HM:=kz hcm
 clear hs h hO hr hB hcm
 generalize zdn T r=ok at *
 cases ok with
 | true =>
  go_enter Tryz.func142,Tryz.ntmps142
  go_wp2_with fail
  go_ret
  exact ⟨by rw [Bool.or_true];rfl,oz HB⟩
 | false =>
  go_enter Tryz.func142,Tryz.ntmps142
  go_wp2_with fail
  refine (oz HC).mono ?_
  rintro e w1 ⟨rfl,rfl⟩
  clear HC
  go_wp2_with fail
  go_ret
  refine ⟨?_,oz HB⟩
  rw [Bool.or_false, ← Bool.not_not (b:=za7 T r), ← oz HM]
  rfl
theorem zj2 {T:TV} (hO:zav T) (B:Nat) (r:Int) (hr:R32 r) (w:World) (h:BookAt w B T):Calls Tryz.prog 144 #[.pointer (some ⟨B,0,none⟩),.int .i32 r] w fun e w' =>e=.returned (.bool (zaN T r))∧Below w.heap.size w w':=by
 obtain ⟨M,n,c0,hs⟩:=h.fos
 obtain ⟨a,c,hl,_⟩:=zpd (T:=T) hO.t4 hs hr
 rw [zlX] at hl
 generalize (((toP T.fo r).map (fun x =>zak x.2)).getD []).length=ln at *
 have HW:=kz (zbf r w)
 have hwr:=zcg r
 have HM:=kz (zdE hO B r hr w h)
 have HD:=kz (fun w1 (hb:Below w.heap.size w w1) =>zbq hO B r w1 (h.below hb))
 have hP:zaN T r=(zan r && (!zdN T.fo r && (!(za7 T r || zdn T r) && !drB T r))):=by
  unfold zaN
  cases zan r <;> cases za7 T r <;> cases zdn T r <;> cases drB T r <;> cases zdN T.fo r <;> rfl
 rw [hP]
 clear hs h hO hr hP
 obtain ⟨wd,hwd⟩:∃ wd,zag r=wd:=⟨_,rfl⟩
 rw [hwd] at HW hwr
 clear hwd
 generalize zan r=b1 at *
 generalize zdN T.fo r=b2 at *
 generalize (za7 T r || zdn T r)=b3 at *
 generalize drB T r=b4 at *
 cases b1 with
 | false =>
  obtain rfl:wd=0:=by simpa using hwr
  clear hwr
  cases b2 with
  | true =>
   go_enter Tryz.func144,Tryz.ntmps144
   go_wp2_with fail
   refine (oz HW).mono ?_
   rintro e w1 ⟨rfl,rfl⟩
   go_wp2_with fail
   go_ret
   exact ⟨rfl,Below.refl _ _⟩
  | false =>
   go_enter Tryz.func144,Tryz.ntmps144
   go_wp2_with fail
   refine (oz HW).mono ?_
   rintro e w1 ⟨rfl,rfl⟩
   go_wp2_with fail
   go_ret
   exact ⟨rfl,Below.refl _ _⟩
 | true =>
  have hw0:(wd == 0)=false:=hwr
  have hw1:¬ wd=0:=by simpa using hwr
  clear hwr
  cases b2 with
  | true =>
   go_enter Tryz.func144,Tryz.ntmps144
   go_wp2_with fail
   refine (oz HW).mono ?_
   rintro e w1 ⟨rfl,rfl⟩
   go_wp2_with fail
   go_ret
   exact ⟨rfl,Below.refl _ _⟩
  | false =>
   go_enter Tryz.func144,Tryz.ntmps144
   go_wp2_with fail
   refine (oz HW).mono ?_
   rintro e w1 ⟨rfl,rfl⟩
   go_wp2_with fail
   refine (oz HM).mono ?_
   rintro e w2 ⟨rfl,hb2⟩
   have HB2:=kz hb2
   clear hb2 HM
   cases b3 with
   | true =>
    go_wp2_with fail
    go_ret
    exact ⟨rfl,oz HB2⟩
   | false =>
    go_wp2_with fail
    refine (oz HD w2 (oz HB2)).mono ?_
    rintro e w3 ⟨rfl,hb3⟩
    have HB3:=kz ((oz HB2).trans (hb3.mono (oz HB2).size))
    clear hb3 HD
    go_wp2_with fail
    go_ret
    refine ⟨?_,oz HB3⟩
    show Ending.returned (.bool (wd != 0 && !b4))=_
    rw [show (wd != 0)=true by simpa using hw1]
    rfl
structure BkT (w:World) (B:Nat) (T:TV) (a0 a1 a2 a3 a4 a5 a6 a7:Option Addr) (c0 c1 c2 c3 c4 c5 c6 c7:Nat) (us:List Value):Prop where
 k0:w.cell? ⟨B,0,none⟩=some (.slice a0 T.sc.length c0)
 k1:w.cell? ⟨B,1,none⟩=some (.slice a1 T.co.length c1)
 k2:w.cell? ⟨B,2,none⟩=some (.slice a2 T.ma.length c2)
 k3:w.cell? ⟨B,3,none⟩=some (.slice a3 T.pr.length c3)
 k4:w.cell? ⟨B,4,none⟩=some (.slice a4 T.fo.length c4)
 k5:w.cell? ⟨B,5,none⟩=some (.slice a5 T.lk.length c5)
 k6:w.cell? ⟨B,6,none⟩=some (.slice a6 T.dr.length c6)
 k7:w.cell? ⟨B,7,none⟩=some (.slice a7 T.al.length c7)
 lt:B < w.heap.size
 ti:TabIn w T a0 a1 a2 a3 a4 a5 a6 a7 us
theorem BkT.below {w w':World} {B:Nat} {T:TV} {a0 a1 a2 a3 a4 a5 a6 a7:Option Addr} {c0 c1 c2 c3 c4 c5 c6 c7:Nat} {us:List Value} (h:BkT w B T a0 a1 a2 a3 a4 a5 a6 a7 c0 c1 c2 c3 c4 c5 c6 c7 us) (hb:Below w.heap.size w w'):BkT w' B T a0 a1 a2 a3 a4 a5 a6 a7 c0 c1 c2 c3 c4 c5 c6 c7 us:=by
 have k:∀ j,w'.cell? ⟨B,j,none⟩=w.cell? ⟨B,j,none⟩:=fun j =>hb.cell (p:=⟨B,j,none⟩) h.lt
 exact ⟨(k 0).trans h.k0,(k 1).trans h.k1,(k 2).trans h.k2,(k 3).trans h.k3,(k 4).trans h.k4,(k 5).trans h.k5,(k 6).trans h.k6,(k 7).trans h.k7,Nat.lt_of_lt_of_le h.lt hb.size,h.ti.lower hb⟩
theorem BookAt.tabs {w:World} {B:Nat} {T:TV} (h:BookAt w B T):∃ a0 a1 a2 a3 a4 a5 a6 a7 c0 c1 c2 c3 c4 c5 c6 c7 us,BkT w B T a0 a1 a2 a3 a4 a5 a6 a7 c0 c1 c2 c3 c4 c5 c6 c7 us:=by
 obtain ⟨lo,t0,t1,t2,t3,t4,t5,t6,t7,sv,bs,Bc,Bd,Ba,M5,n5,M6,n6,M7,n7,MF,nF,ML,nL,h⟩:=h
 obtain ⟨a0,a1,a2,a3,a4,a5,a6,a7,c0,c1,c2,c3,c4,c5,c6,c7,us,e,ti,_⟩:=h.tb.inn
 injection e with e
 have key:∀ j v,#[t0,t1,t2,t3,t4,t5,t6,t7][j]?=some v→w.cell? ⟨B,j,none⟩=some v:=fun j v hv =>by
  rw [h.bx.cell j, ← hv]
  have hj:j < 8:=(Array.getElem?_eq_some_iff.1 hv).1
  obtain rfl | rfl | rfl | rfl | rfl | rfl | rfl | rfl:j=0∨j=1∨j=2∨j=3∨j=4∨j=5∨j=6∨j=7:=by omega
  all_goals rfl
 rw [e] at key
 exact ⟨a0,a1,a2,a3,a4,a5,a6,a7,c0,c1,c2,c3,c4,c5,c6,c7,us,key 0 _ rfl,key 1 _ rfl,key 2 _ rfl,key 3 _ rfl,key 4 _ rfl,key 5 _ rfl,key 6 _ rfl,key 7 _ rfl,h.bx.lt,ti⟩
structure BkP (w:World) (BB B:Nat) (T:TV):Prop where
 bb:Blk w BB #[.pointer (some ⟨B,0,none⟩)] 29
 bk:BookAt w B T
theorem BkP.below {w w':World} {BB B:Nat} {T:TV} (h:BkP w BB B T) (hb:Below w.heap.size w w'):BkP w' BB B T:=⟨h.bb.below hb h.bb.lt,h.bk.below hb⟩
theorem zcq {r:Int} (h:zan r=true):R32 r:=by
 have:=zaZ h
 unfold R32
 omega
theorem zcE {T:TV} (hO:zav T) (B:Nat) (zs:List Int) (hn:zs.length≤1000000) (a:Option Addr) (c:Nat) (W:World) (h:BookAt W B T) (hr:RnC W W.heap.size a zs) :
  Calls Tryz.prog 138 #[.pointer (some ⟨B,0,none⟩),.slice a zs.length c] W fun e w' =>e=.returned (.int .i64 (if zs.any (drB T) then 37 else 0))∧Below W.heap.size W w':=by
 have HI:=kz (zcc zs hn a c 42 #[.pointer (some ⟨B,0,none⟩)] #[] (enters_of Tryz.func42 (by kernel_rfl) rfl) (drB T) W hr (fun x _ w hb =>(zbq hO B x w (h.below hb)).mono (fun e w' ⟨he,hw⟩ =>⟨he,hb.trans (hw.mono hb.size)⟩)))
 clear hr h hO
 generalize zs.any (drB T)=b at *
 go_enter Tryz.func138,Tryz.ntmps138
 go_wp2_with fail
 refine (oz HI).mono ?_
 rintro e w' ⟨rfl,hb⟩
 have HB:=kz hb
 clear hb HI
 go_wp2_with fail
 refine (zaF b 37 w').mono ?_
 rintro e w2 ⟨rfl,rfl⟩
 cases b
 all_goals
  go_wp2_with fail
  go_ret
  exact ⟨rfl,oz HB⟩
theorem zdF {l:List (Int × Int)} (hl:l.length≤1000000) (C:Nat) (zs:List Int) (hn:zs.length≤1000000) (a:Option Addr) (c:Nat) (W:World) (h:SetV W l C) (hr:RnC W W.heap.size a zs) :
  Calls Tryz.prog 153 #[.pointer (some ⟨C,0,none⟩),.slice a zs.length c] W fun e w' =>e=.returned (.int .i64 (if zs.any (zam l) then 5 else 0))∧Below W.heap.size W w':=by
 have HI:=kz (zcc zs hn a c 65 #[.pointer (some ⟨C,0,none⟩)] #[] (enters_of Tryz.func65 (by kernel_rfl) rfl) (zam l) W hr (fun x _ w hb =>(ziw hl (h.below hb) x).mono (fun e w' ⟨he,hw⟩ =>⟨he,hb.trans (hw.mono hb.size)⟩)))
 clear hr h
 generalize zs.any (zam l)=b at *
 go_enter Tryz.func153,Tryz.ntmps153
 go_wp2_with fail
 refine (oz HI).mono ?_
 rintro e w' ⟨rfl,hb⟩
 have HB:=kz hb
 clear hb HI
 go_wp2_with fail
 refine (zaF b 5 w').mono ?_
 rintro e w2 ⟨rfl,rfl⟩
 cases b
 all_goals
  go_wp2_with fail
  go_ret
  exact ⟨rfl,oz HB⟩
theorem zlB {T:TV} (hO:zav T) (BB B:Nat) (x1 x2 x3:Int) (h1:R32 x1) (h2:R32 x2) (h3:R32 x3) (w:World) (h:BkP w BB B T) :
  Calls Tryz.prog 135 #[.agg #[.int .i32 x1,.int .i32 x2,.int .i32 x3],.pointer (some ⟨BB,0,none⟩)] w fun e w' =>e=.returned (.int .i64 (prE T (x1,x2,x3)))∧Below w.heap.size w w':=by
 have hB:Below w.heap.size w (w.alloc (.cells #[.int .i32 x1,.int .i32 x2,.int .i32 x3] 117)):=(Below.refl _ w).alloc (Nat.le_refl _) _
 have hP:=h.below hB
 have b0:=hP.bb.cell 0
 have HC1:=kz (zdS hO B x1 h1 _ hP.bk)
 have HC2:=kz (zdS hO B x2 h2 _ hP.bk)
 have HC3:=kz (zdS hO B x3 h3 _ hP.bk)
 have m1:=zey hO x1
 have m2:=zey hO x2
 have m3:=zey hO x3
 have HB:=kz hB
 unfold prE
 dsimp only
 clear hB hP h hO h1 h2 h3
 generalize zdl T x1=k1 at *
 generalize zdl T x2=k2 at *
 generalize zdl T x3=k3 at *
 generalize za7 T x1=b1 at *
 generalize za7 T x2=b2 at *
 generalize za7 T x3=b3 at *
 cases b1 with
 | true =>
  have n1:¬ k1=0:=by simpa using m1
  have q1:(k1 == 0)=false:=m1
  have p1:(k1 != 0)=true:=by simpa using m1
  clear m1
  go_enter Tryz.func135,Tryz.ntmps135
  go_wp2_with fail
  refine (oz HC1).mono ?_
  rintro e w1 ⟨rfl,hw⟩
  rw [hw]
  clear hw HC1
  go_wp2_with fail
  refine (zaF true 32 _).mono ?_
  rintro e w1 ⟨rfl,hw⟩
  rw [hw]
  clear hw
  go_wp2_with fail
  go_ret
  exact ⟨rfl,oz HB⟩
 | false =>
  obtain rfl:k1=0:=by simpa using m1
  clear m1
  cases b2 with
  | true =>
   have n2:¬ k2=0:=by simpa using m2
   have q2:(k2 == 0)=false:=m2
   have p2:(k2 != 0)=true:=by simpa using m2
   clear m2
   go_enter Tryz.func135,Tryz.ntmps135
   go_wp2_with fail
   refine (oz HC1).mono ?_
   rintro e w1 ⟨rfl,hw⟩
   rw [hw]
   clear hw HC1
   go_wp2_with fail
   refine (oz HC2).mono ?_
   rintro e w1 ⟨rfl,hw⟩
   rw [hw]
   clear hw HC2
   go_wp2_with fail
   refine (zaF true 32 _).mono ?_
   rintro e w1 ⟨rfl,hw⟩
   rw [hw]
   clear hw
   go_wp2_with fail
   go_ret
   exact ⟨rfl,oz HB⟩
  | false =>
   obtain rfl:k2=0:=by simpa using m2
   clear m2
   cases b3 with
   | true =>
    have n3:¬ k3=0:=by simpa using m3
    have q3:(k3 == 0)=false:=m3
    have p3:(k3 != 0)=true:=by simpa using m3
    clear m3
    go_enter Tryz.func135,Tryz.ntmps135
    go_wp2_with fail
    refine (oz HC1).mono ?_
    rintro e w1 ⟨rfl,hw⟩
    rw [hw]
    clear hw HC1
    go_wp2_with fail
    refine (oz HC2).mono ?_
    rintro e w1 ⟨rfl,hw⟩
    rw [hw]
    clear hw HC2
    go_wp2_with fail
    refine (oz HC3).mono ?_
    rintro e w1 ⟨rfl,hw⟩
    rw [hw]
    clear hw HC3
    go_wp2_with fail
    refine (zaF false 32 _).mono ?_
    rintro e w1 ⟨rfl,hw⟩
    rw [hw]
    clear hw
    go_wp2_with fail
    go_ret
    exact ⟨rfl,oz HB⟩
   | false =>
    obtain rfl:k3=0:=by simpa using m3
    clear m3
    go_enter Tryz.func135,Tryz.ntmps135
    go_wp2_with fail
    refine (oz HC1).mono ?_
    rintro e w1 ⟨rfl,hw⟩
    rw [hw]
    clear hw HC1
    go_wp2_with fail
    refine (oz HC2).mono ?_
    rintro e w1 ⟨rfl,hw⟩
    rw [hw]
    clear hw HC2
    go_wp2_with fail
    refine (oz HC3).mono ?_
    rintro e w1 ⟨rfl,hw⟩
    rw [hw]
    clear hw HC3
    go_wp2_with fail
    refine (zaF true 32 _).mono ?_
    rintro e w1 ⟨rfl,hw⟩
    rw [hw]
    clear hw
    go_wp2_with fail
    go_ret
    exact ⟨rfl,oz HB⟩
theorem zhy {T:TV} (hO:zav T) (BB B:Nat) (x1:Int) (x2:ByteArray) (w:World) (h:BkP w BB B T) :
  Calls Tryz.prog 137 #[.agg #[.int .i32 x1,.string x2],.pointer (some ⟨BB,0,none⟩)] w fun e w' =>e=.returned (.int .i64 (if drB T x1 then 37 else 0))∧Below w.heap.size w w':=by
 have hB1:Below w.heap.size w (w.alloc (.cells #[.int .i32 x1,.string x2] 119)):=(Below.refl _ w).alloc (Nat.le_refl _) _
 have b0:=(h.below hB1).bb.cell 0
 have hB2:Below w.heap.size w ((w.alloc (.cells #[.int .i32 x1,.string x2] 119)).alloc (.cells #[.int .i32 x1] 21)):=hB1.alloc (by simp) _
 have hP:=h.below hB2
 have hv:[x1].any (drB T)=(drB T x1):=by simp
 have HD:=kz (zcE hO B [x1] (by simp) (some ⟨w.heap.size+1,0,none⟩) 1 ((w.alloc (.cells #[.int .i32 x1,.string x2] 119)).alloc (.cells #[.int .i32 x1] 21)) hP.bk (zeA (w.alloc (.cells #[.int .i32 x1,.string x2] 119)) (w.heap.size+1) x1 21 (by simp)))
 rw [hv] at HD
 have HB:=kz hB2
 clear hB1 hB2 hP h hO hv
 generalize (drB T x1)=bb at *
 go_enter Tryz.func137,Tryz.ntmps137
 go_wp2_with fail
 refine (oz HD).mono ?_
 rintro e w2 ⟨rfl,hb⟩
 have HB2:=kz ((oz HB).trans (hb.mono (oz HB).size))
 clear hb HB HD
 cases bb
 all_goals
  go_wp2_with fail
  go_ret
  exact ⟨rfl,oz HB2⟩
theorem zlr {T:TV} (hO:zav T) (BB B:Nat) (x1 x2:Int) (w:World) (h:BkP w BB B T) :
  Calls Tryz.prog 139 #[.agg #[.int .i32 x1,.int .i64 x2],.pointer (some ⟨BB,0,none⟩)] w fun e w' =>e=.returned (.int .i64 (if drB T x1 then 37 else 0))∧Below w.heap.size w w':=by
 have hB1:Below w.heap.size w (w.alloc (.cells #[.int .i32 x1,.int .i64 x2] 115)):=(Below.refl _ w).alloc (Nat.le_refl _) _
 have b0:=(h.below hB1).bb.cell 0
 have hB2:Below w.heap.size w ((w.alloc (.cells #[.int .i32 x1,.int .i64 x2] 115)).alloc (.cells #[.int .i32 x1] 21)):=hB1.alloc (by simp) _
 have hP:=h.below hB2
 have hv:[x1].any (drB T)=(drB T x1):=by simp
 have HD:=kz (zcE hO B [x1] (by simp) (some ⟨w.heap.size+1,0,none⟩) 1 ((w.alloc (.cells #[.int .i32 x1,.int .i64 x2] 115)).alloc (.cells #[.int .i32 x1] 21)) hP.bk (zeA (w.alloc (.cells #[.int .i32 x1,.int .i64 x2] 115)) (w.heap.size+1) x1 21 (by simp)))
 rw [hv] at HD
 have HB:=kz hB2
 clear hB1 hB2 hP h hO hv
 generalize (drB T x1)=bb at *
 go_enter Tryz.func139,Tryz.ntmps139
 go_wp2_with fail
 refine (oz HD).mono ?_
 rintro e w2 ⟨rfl,hb⟩
 have HB2:=kz ((oz HB).trans (hb.mono (oz HB).size))
 clear hb HB HD
 cases bb
 all_goals
  go_wp2_with fail
  go_ret
  exact ⟨rfl,oz HB2⟩
theorem zlq {T:TV} (hO:zav T) (BB B:Nat) (x1 x2 x3:Int) (w:World) (h:BkP w BB B T) :
  Calls Tryz.prog 140 #[.agg #[.int .i32 x1,.int .i32 x2,.int .i32 x3],.pointer (some ⟨BB,0,none⟩)] w fun e w' =>e=.returned (.int .i64 (if drB T x1 || (drB T x2 || drB T x3) then 37 else 0))∧Below w.heap.size w w':=by
 have hB1:Below w.heap.size w (w.alloc (.cells #[.int .i32 x1,.int .i32 x2,.int .i32 x3] 117)):=(Below.refl _ w).alloc (Nat.le_refl _) _
 have b0:=(h.below hB1).bb.cell 0
 have hB2:Below w.heap.size w ((w.alloc (.cells #[.int .i32 x1,.int .i32 x2,.int .i32 x3] 117)).alloc (.cells #[.int .i32 x1,.int .i32 x2,.int .i32 x3] 21)):=hB1.alloc (by simp) _
 have hP:=h.below hB2
 have hv:[x1,x2,x3].any (drB T)=(drB T x1 || (drB T x2 || drB T x3)):=by simp
 have HD:=kz (zcE hO B [x1,x2,x3] (by simp) (some ⟨w.heap.size+1,0,none⟩) 3 ((w.alloc (.cells #[.int .i32 x1,.int .i32 x2,.int .i32 x3] 117)).alloc (.cells #[.int .i32 x1,.int .i32 x2,.int .i32 x3] 21)) hP.bk (zkb (w.alloc (.cells #[.int .i32 x1,.int .i32 x2,.int .i32 x3] 117)) (w.heap.size+1) x1 x2 x3 21 (by simp)))
 rw [hv] at HD
 have HB:=kz hB2
 clear hB1 hB2 hP h hO hv
 generalize (drB T x1 || (drB T x2 || drB T x3))=bb at *
 go_enter Tryz.func140,Tryz.ntmps140
 go_wp2_with fail
 refine (oz HD).mono ?_
 rintro e w2 ⟨rfl,hb⟩
 have HB2:=kz ((oz HB).trans (hb.mono (oz HB).size))
 clear hb HB HD
 cases bb
 all_goals
  go_wp2_with fail
  go_ret
  exact ⟨rfl,oz HB2⟩
theorem zhA {T:TV} (hO:zav T) (BB B:Nat) (x1:Int) (x2:ByteArray) (h1:R32 x1) (w:World) (h:BkP w BB B T) :
  Calls Tryz.prog 141 #[.agg #[.int .i32 x1,.string x2],.pointer (some ⟨BB,0,none⟩)] w fun e w' =>e=.returned (.int .i64 (if za7 T x1 || zdn T x1 then 31 else 0))∧Below w.heap.size w w':=by
 have hB1:Below w.heap.size w (w.alloc (.cells #[.int .i32 x1,.string x2] 119)):=(Below.refl _ w).alloc (Nat.le_refl _) _
 have b0:=(h.below hB1).bb.cell 0
 have HD:=kz (zdE hO B x1 h1 (w.alloc (.cells #[.int .i32 x1,.string x2] 119)) (h.below hB1).bk)
 have HB:=kz hB1
 clear hB1 h hO h1
 generalize (za7 T x1 || zdn T x1)=bb at *
 go_enter Tryz.func141,Tryz.ntmps141
 go_wp2_with fail
 refine (oz HD).mono ?_
 rintro e w2 ⟨rfl,hb⟩
 have HB2:=kz ((oz HB).trans (hb.mono (oz HB).size))
 clear hb HB HD b0
 go_wp2_with fail
 refine (zaF bb 31 w2).mono ?_
 rintro e w3 ⟨rfl,rfl⟩
 cases bb
 all_goals
  go_wp2_with fail
  go_ret
  exact ⟨rfl,oz HB2⟩
theorem zhz {T:TV} (hO:zav T) (BB B:Nat) (r:Int) (h1:R32 r) (w:World) (h:BkP w BB B T) :
  Calls Tryz.prog 143 #[.int .i32 r,.pointer (some ⟨BB,0,none⟩)] w fun e w' =>e=.returned (.bool (!zaN T r))∧Below w.heap.size w w':=by
 have b0:=h.bb.cell 0
 have HD:=kz (zj2 hO B r h1 w h.bk)
 clear h hO h1
 generalize zaN T r=bb at *
 go_enter Tryz.func143,Tryz.ntmps143
 go_wp2_with fail
 refine (oz HD).mono ?_
 rintro e w2 ⟨rfl,hb⟩
 have HB2:=kz hb
 clear hb HD b0
 go_wp2_with fail
 go_ret
 exact ⟨rfl,oz HB2⟩
structure BkU (w:World) (BB BU B:Nat) (T:TV):Prop where
 bp:BkP w BB B T
 bu:Blk w BU #[.func (.func 143) #[] #[.pointer (some ⟨BB,0,none⟩)]] 87
theorem BkU.below {w w':World} {BB BU B:Nat} {T:TV} (h:BkU w BB BU B T) (hb:Below w.heap.size w w'):BkU w' BB BU B T:=⟨h.bp.below hb,h.bu.below hb h.bu.lt⟩
theorem zlA {T:TV} (hO:zav T) (BB BU B:Nat) (r:Int) (h1:R32 r) (w:World) (h:BkU w BB BU B T) :
  Calls Tryz.prog 145 #[.int .i32 r,.pointer (some ⟨BB,0,none⟩),.pointer (some ⟨BU,0,none⟩)] w fun e w' =>e=.returned (.bool (!zaN T r || zdN T.lk r))∧Below w.heap.size w w':=by
 have b0:=h.bp.bb.cell 0
 have b1:=h.bu.cell 0
 obtain ⟨M,n,c0,hs⟩:=h.bp.bk.lks
 obtain ⟨a,c,hl,_⟩:=zpd (T:=T) hO.t5 hs h1
 rw [zlX] at hl
 generalize (((toP T.lk r).map (fun x =>zak x.2)).getD []).length=ln at *
 have HD:=kz (zhz hO BB B r h1 w h.bp)
 have eg:∀ args w,(callFunc 143 args).run Tryz.prog w=.ok (.enter 143 args) w:=enters_of Tryz.func143 (by kernel_rfl) rfl
 clear h hO h1 hs
 generalize zaN T r=bb at *
 generalize zdN T.lk r=bf at *
 cases bf with
 | true =>
  go_enter Tryz.func145,Tryz.ntmps145
  go_wp2_with fail
  go_ret
  exact ⟨by rw [Bool.or_true];rfl,Below.refl _ _⟩
 | false =>
  go_enter Tryz.func145,Tryz.ntmps145
  go_wp2_with (go_at_fn 143;refine (oz HD).mono ?_;rintro e w2 ⟨rfl,hb⟩)
  go_ret
  exact ⟨by rw [Bool.or_false];rfl,hb⟩
theorem zkf {w:World} {g:Nat} {l:List Int} (h:RnG w g l):RnC w w.heap.size (some ⟨g,0,none⟩) l:=fun _ =>⟨g,0,rfl,h.1,fun j x hx =>by rw [Nat.zero_add];exact h.2 j x hx⟩
structure BkV (w:World) (BB BU BV B:Nat) (T:TV):Prop where
 bu:BkU w BB BU B T
 bv:Blk w BV #[.func (.func 145) #[] #[.pointer (some ⟨BB,0,none⟩),.pointer (some ⟨BU,0,none⟩)]] 87
theorem BkV.below {w w':World} {BB BU BV B:Nat} {T:TV} (h:BkV w BB BU BV B T) (hb:Below w.heap.size w w'):BkV w' BB BU BV B T:=⟨h.bu.below hb,h.bv.below hb h.bv.lt⟩
def zq8 (P:Nat) (x2:ByteArray) (fv:Value) (bb:Bool) (z:Int):Nat→Value→World→Prop
 | 0,v,w =>v=.pointer (some ⟨P,1,none⟩)
 | 1,v,w =>v=.string x2
 | 2,v,w => ∃ g c,v=.slice (some ⟨g,0,none⟩) (zak x2).length c∧RnG w g (zak x2)
 | 3,v,w =>v=fv
 | 4,v,w =>v=.bool bb
 | 5,v,w =>v=.int .i64 z
 | _,v,w =>True
def zqA (j:Nat):Bool:=false
theorem zfi {P:Nat} {x2:ByteArray} {fv:Value} {bb:Bool} {z:Int} {w w':World} (hb:Below w.heap.size w w'):∀ (j:Nat) (v:Value),zq8 P x2 fv bb z j v w→zq8 P x2 fv bb z j v w'
 | 0,v,h =>h
 | 1,v,h =>h
 | 2,v,h =>let ⟨g,c,e,h2⟩:=h; ⟨g,c,e,h2.below hb⟩
 | 3,v,h =>h
 | 4,v,h =>h
 | 5,v,h =>h
 | _+6,v,h =>h
theorem zfj {P:Nat} {x2:ByteArray} {fv:Value} {bb:Bool} {z:Int} {w:World} (j:Nat) (v:Value) (hm:zqA j=true) (h:zq8 P x2 fv bb z j v w):∀ b,v.ownBlock=some b→b < w.heap.size:=by
 cases hm
theorem zlz {T:TV} (hO:zav T) (BB BU B:Nat) (x1:Int) (x2:ByteArray) (hz:x2.size≤1048576) (hn:(zak x2).length≤1000000) (h32:∀ r ∈ zak x2,R32 r) (w0:World) (h:BkU w0 BB BU B T) :
  Calls Tryz.prog 146 #[.agg #[.int .i32 x1,.string x2],.pointer (some ⟨BU,0,none⟩)] w0 fun e w' =>e=.returned (.int .i64 (if (zak x2).any (fun r => !zaN T r) then 35 else 0))∧Below w0.heap.size w0 w':=by
 have hmx:Tryz.prog.follows .mixedOrders=true:=by kernel_rfl
 have eg:∀ args w,(callFunc 143 args).run Tryz.prog w=.ok (.enter 143 args) w:=enters_of Tryz.func143 (by kernel_rfl) rfl
 have hB0:Below w0.heap.size w0 (w0.alloc (.cells #[.int .i32 x1,.string x2] 119)).drew:=((Below.refl _ w0).alloc (Nat.le_refl _) _).trans ⟨rfl,rfl,rfl,Nat.le_refl _,fun _ _ =>rfl⟩
 have bX:Blk (w0.alloc (.cells #[.int .i32 x1,.string x2] 119)).drew w0.heap.size #[.int .i32 x1,.string x2] 119:=Blk.new w0 _ _
 have hU:=h.below hB0
 have HF:Hz (∀ w1,Below (w0.alloc (.cells #[.int .i32 x1,.string x2] 119)).drew.heap.size (w0.alloc (.cells #[.int .i32 x1,.string x2] 119)).drew w1→Blk w1 w0.heap.size #[.int .i32 x1,.string x2] 119∧BkU w1 BB BU B T):=kz (fun w1 h1 =>⟨bX.below h1 bX.lt,hU.below h1⟩)
 have HB:=kz hB0
 have HO:=kz hO
 have HZ:=kz hz
 have HN:=kz hn
 have H32:=kz h32
 obtain ⟨bb,hbb⟩:∃ bb,(zak x2).any (fun r => !zaN T r)=bb:=⟨_,rfl⟩
 rw [hbb]
 obtain ⟨z,hzz⟩:∃ z:Int,(if bb=true then 35 else 0)=z:=⟨_,rfl⟩
 rw [hzz]
 have HV:=kz hbb
 have HZZ:=kz hzz
 clear hB0 bX hU h hO hz hn h32 hbb hzz
 go_enter Tryz.func146,Tryz.ntmps146
 go_wp2_with fail
 generalize (w0.alloc (.cells #[.int .i32 x1,.string x2] 119))=wz at *
 refine zao hmx 6 (by decide) (by kernel_rfl) (by kernel_rfl) (fun l a w => ∃ U:Nat→Value,a = { tmps:=#[.agg #[.int .i32 x1,.string x2],.pointer (some ⟨BU,0,none⟩),.pointer (some ⟨w0.heap.size,0,none⟩),.int .i64 0,U 0,U 1,U 2,U 3,U 4,U 5],defers := [] }∧RgJ (wz.drew) (wz.drew.heap.size) (zq8 w0.heap.size x2 (.func (.func 143) #[] #[.pointer (some ⟨BB,0,none⟩)]) bb z) zqA l U w) ⟨fun _ =>undef,rfl,RgJ.start _ _ (Nat.le_refl _)⟩ ?_ ?_
 ·rintro l a w i ⟨U,rfl,hJ⟩ hl hi hif
  have h0:=(mem_ready.1 hi).1
  have hlt:=zc9 hl h0
  have HJ:=kz hJ
  clear hJ hl
  replace hlt:i < 7:=hlt
  obtain rfl | rfl | rfl | rfl | rfl | rfl:i=0∨i=1∨i=2∨i=3∨i=4∨i=5:=by omega
  ·refine wpOp_step rfl (fun K hK =>?_)
   clear hlt hif
   go_simp
   exact hK _ _ ⟨zaa U 0 _,rfl,(oz HJ).put 0 _ h0 (Below.refl _ _) (zfi (Below.refl _ _)) rfl zfj (fun h =>absurd h (by decide))⟩
  ·refine wpOp_step rfl (fun K hK =>?_)
   clear hlt hif
   have d0:U 0=.pointer (some ⟨w0.heap.size,1,none⟩):=(oz HJ).val 0 (zab hi 0 (by kernel_rfl))
   have q1:=(oz HF w (oz HJ).bel).1.cell 1
   go_simp
   exact hK _ _ ⟨zaa U 1 _,(by rw [zac d0];rfl),(oz HJ).put 1 _ h0 (Below.refl _ _) (zfi (Below.refl _ _)) rfl zfj (fun h =>absurd h (by decide))⟩
  ·refine wpOp_step rfl (fun K hK =>?_)
   clear hlt hif
   have d1:U 1=.string x2:=(oz HJ).val 1 (zab hi 1 (by kernel_rfl))
   go_simp
   refine (zix x2 (oz HZ) _).mono ?_
   rintro e w' ⟨g2,c2,rfl,hg2,hrn,hb⟩
   exact hK _ _ ⟨zaa U 2 _,(by rw [zac d1];rfl),(oz HJ).put 2 _ h0 hb (zfi hb) ⟨g2,c2,rfl,hrn⟩ zfj (fun h =>absurd h (by decide))⟩
  ·refine wpOp_step rfl (fun K hK =>?_)
   clear hlt hif
   have q2:=(oz HF w (oz HJ).bel).2.bu.cell 0
   go_simp
   exact hK _ _ ⟨zaa U 3 _,rfl,(oz HJ).put 3 _ h0 (Below.refl _ _) (zfi (Below.refl _ _)) rfl zfj (fun h =>absurd h (by decide))⟩
  ·refine wpOp_step rfl (fun K hK =>?_)
   clear hlt hif
   obtain ⟨g2,c2,d2,h2⟩:=(oz HJ).val 2 (zab hi 2 (by kernel_rfl))
   have d3:U 3=.func (.func 143) #[] #[.pointer (some ⟨BB,0,none⟩)]:=(oz HJ).val 3 (zab hi 3 (by kernel_rfl))
   go_simp
   refine (zcc (zak x2) (oz HN) _ _ 143 #[] #[.pointer (some ⟨BB,0,none⟩)] eg (fun r => !zaN T r) w (zkf h2) (fun x hx w1 hb1 =>(zhz (oz HO) BB B x (oz H32 x hx) w1 ((oz HF w (oz HJ).bel).2.bp.below hb1)).mono (fun e w2 ⟨he,hw⟩ =>⟨he,hb1.trans (hw.mono hb1.size)⟩))).mono ?_
   rintro e w' ⟨he,hb⟩
   rw [oz HV] at he
   subst he
   exact hK _ _ ⟨zaa U 4 _,(by rw [zac d2,zac d3];rfl),(oz HJ).put 4 _ h0 hb (zfi hb) rfl zfj (fun h =>absurd h (by decide))⟩
  ·refine wpOp_step rfl (fun K hK =>?_)
   clear hlt hif
   have d4:U 4=.bool bb:=(oz HJ).val 4 (zab hi 4 (by kernel_rfl))
   go_simp
   refine (zaF bb 35 w).mono ?_
   rw [oz HZZ]
   rintro e w' ⟨rfl,rfl⟩
   exact hK _ _ ⟨zaa U 5 _,(by rw [zac d4];rfl),(oz HJ).put 5 _ h0 (Below.refl _ _) (zfi (Below.refl _ _)) rfl zfj (fun h =>absurd h (by decide))⟩
 ·rintro l a w ⟨U,rfl,hJ⟩ hall
  have d5:U 5=.int .i64 z:=hJ.val 5 (hall 5 (by decide) (by decide))
  have HBJ:=kz ((oz HB).trans (hJ.bel.mono (oz HB).size))
  clear hJ hall
  refine wpOp_step rfl (fun K hK =>?_)
  go_simp
  refine hK _ _ ?_
  clear hK
  go_wp2_with fail
  go_ret
  exact ⟨rfl,oz HBJ⟩
def zq7 (P:Nat) (x2:ByteArray) (fv:Value) (bb:Bool) (z:Int):Nat→Value→World→Prop
 | 0,v,w =>v=.pointer (some ⟨P,1,none⟩)
 | 1,v,w =>v=.string x2
 | 2,v,w => ∃ g c,v=.slice (some ⟨g,0,none⟩) (zak x2).length c∧RnG w g (zak x2)
 | 3,v,w =>v=fv
 | 4,v,w =>v=.bool bb
 | 5,v,w =>v=.int .i64 z
 | _,v,w =>True
def zqz (j:Nat):Bool:=false
theorem zfg {P:Nat} {x2:ByteArray} {fv:Value} {bb:Bool} {z:Int} {w w':World} (hb:Below w.heap.size w w'):∀ (j:Nat) (v:Value),zq7 P x2 fv bb z j v w→zq7 P x2 fv bb z j v w'
 | 0,v,h =>h
 | 1,v,h =>h
 | 2,v,h =>let ⟨g,c,e,h2⟩:=h; ⟨g,c,e,h2.below hb⟩
 | 3,v,h =>h
 | 4,v,h =>h
 | 5,v,h =>h
 | _+6,v,h =>h
theorem zfh {P:Nat} {x2:ByteArray} {fv:Value} {bb:Bool} {z:Int} {w:World} (j:Nat) (v:Value) (hm:zqz j=true) (h:zq7 P x2 fv bb z j v w):∀ b,v.ownBlock=some b→b < w.heap.size:=by
 cases hm
theorem zly {T:TV} (hO:zav T) (BB BU BV B:Nat) (x1:Int) (x2:ByteArray) (hz:x2.size≤1048576) (hn:(zak x2).length≤1000000) (h32:∀ r ∈ zak x2,R32 r) (w0:World) (h:BkV w0 BB BU BV B T) :
  Calls Tryz.prog 148 #[.agg #[.int .i32 x1,.string x2],.pointer (some ⟨BV,0,none⟩)] w0 fun e w' =>e=.returned (.int .i64 (if (zak x2).any (fun r => !zaN T r || zdN T.lk r) then 36 else 0))∧Below w0.heap.size w0 w':=by
 have hmx:Tryz.prog.follows .mixedOrders=true:=by kernel_rfl
 have eg:∀ args w,(callFunc 145 args).run Tryz.prog w=.ok (.enter 145 args) w:=enters_of Tryz.func145 (by kernel_rfl) rfl
 have hB0:Below w0.heap.size w0 (w0.alloc (.cells #[.int .i32 x1,.string x2] 119)).drew:=((Below.refl _ w0).alloc (Nat.le_refl _) _).trans ⟨rfl,rfl,rfl,Nat.le_refl _,fun _ _ =>rfl⟩
 have bX:Blk (w0.alloc (.cells #[.int .i32 x1,.string x2] 119)).drew w0.heap.size #[.int .i32 x1,.string x2] 119:=Blk.new w0 _ _
 have hU:=h.below hB0
 have HF:Hz (∀ w1,Below (w0.alloc (.cells #[.int .i32 x1,.string x2] 119)).drew.heap.size (w0.alloc (.cells #[.int .i32 x1,.string x2] 119)).drew w1→Blk w1 w0.heap.size #[.int .i32 x1,.string x2] 119∧BkV w1 BB BU BV B T):=kz (fun w1 h1 =>⟨bX.below h1 bX.lt,hU.below h1⟩)
 have HB:=kz hB0
 have HO:=kz hO
 have HZ:=kz hz
 have HN:=kz hn
 have H32:=kz h32
 obtain ⟨bb,hbb⟩:∃ bb,(zak x2).any (fun r => !zaN T r || zdN T.lk r)=bb:=⟨_,rfl⟩
 rw [hbb]
 obtain ⟨z,hzz⟩:∃ z:Int,(if bb=true then 36 else 0)=z:=⟨_,rfl⟩
 rw [hzz]
 have HV:=kz hbb
 have HZZ:=kz hzz
 clear hB0 bX hU h hO hz hn h32 hbb hzz
 go_enter Tryz.func148,Tryz.ntmps148
 go_wp2_with fail
 generalize (w0.alloc (.cells #[.int .i32 x1,.string x2] 119))=wz at *
 refine zao hmx 6 (by decide) (by kernel_rfl) (by kernel_rfl) (fun l a w => ∃ U:Nat→Value,a = { tmps:=#[.agg #[.int .i32 x1,.string x2],.pointer (some ⟨BV,0,none⟩),.pointer (some ⟨w0.heap.size,0,none⟩),.int .i64 0,U 0,U 1,U 2,U 3,U 4,U 5],defers := [] }∧RgJ (wz.drew) (wz.drew.heap.size) (zq7 w0.heap.size x2 (.func (.func 145) #[] #[.pointer (some ⟨BB,0,none⟩),.pointer (some ⟨BU,0,none⟩)]) bb z) zqz l U w) ⟨fun _ =>undef,rfl,RgJ.start _ _ (Nat.le_refl _)⟩ ?_ ?_
 ·rintro l a w i ⟨U,rfl,hJ⟩ hl hi hif
  have h0:=(mem_ready.1 hi).1
  have hlt:=zc9 hl h0
  have HJ:=kz hJ
  clear hJ hl
  replace hlt:i < 7:=hlt
  obtain rfl | rfl | rfl | rfl | rfl | rfl:i=0∨i=1∨i=2∨i=3∨i=4∨i=5:=by omega
  ·refine wpOp_step rfl (fun K hK =>?_)
   clear hlt hif
   go_simp
   exact hK _ _ ⟨zaa U 0 _,rfl,(oz HJ).put 0 _ h0 (Below.refl _ _) (zfg (Below.refl _ _)) rfl zfh (fun h =>absurd h (by decide))⟩
  ·refine wpOp_step rfl (fun K hK =>?_)
   clear hlt hif
   have d0:U 0=.pointer (some ⟨w0.heap.size,1,none⟩):=(oz HJ).val 0 (zab hi 0 (by kernel_rfl))
   have q1:=(oz HF w (oz HJ).bel).1.cell 1
   go_simp
   exact hK _ _ ⟨zaa U 1 _,(by rw [zac d0];rfl),(oz HJ).put 1 _ h0 (Below.refl _ _) (zfg (Below.refl _ _)) rfl zfh (fun h =>absurd h (by decide))⟩
  ·refine wpOp_step rfl (fun K hK =>?_)
   clear hlt hif
   have d1:U 1=.string x2:=(oz HJ).val 1 (zab hi 1 (by kernel_rfl))
   go_simp
   refine (zix x2 (oz HZ) _).mono ?_
   rintro e w' ⟨g2,c2,rfl,hg2,hrn,hb⟩
   exact hK _ _ ⟨zaa U 2 _,(by rw [zac d1];rfl),(oz HJ).put 2 _ h0 hb (zfg hb) ⟨g2,c2,rfl,hrn⟩ zfh (fun h =>absurd h (by decide))⟩
  ·refine wpOp_step rfl (fun K hK =>?_)
   clear hlt hif
   have q2:=(oz HF w (oz HJ).bel).2.bv.cell 0
   go_simp
   exact hK _ _ ⟨zaa U 3 _,rfl,(oz HJ).put 3 _ h0 (Below.refl _ _) (zfg (Below.refl _ _)) rfl zfh (fun h =>absurd h (by decide))⟩
  ·refine wpOp_step rfl (fun K hK =>?_)
   clear hlt hif
   obtain ⟨g2,c2,d2,h2⟩:=(oz HJ).val 2 (zab hi 2 (by kernel_rfl))
   have d3:U 3=.func (.func 145) #[] #[.pointer (some ⟨BB,0,none⟩),.pointer (some ⟨BU,0,none⟩)]:=(oz HJ).val 3 (zab hi 3 (by kernel_rfl))
   go_simp
   refine (zcc (zak x2) (oz HN) _ _ 145 #[] #[.pointer (some ⟨BB,0,none⟩),.pointer (some ⟨BU,0,none⟩)] eg (fun r => !zaN T r || zdN T.lk r) w (zkf h2) (fun x hx w1 hb1 =>(zlA (oz HO) BB BU B x (oz H32 x hx) w1 ((oz HF w (oz HJ).bel).2.bu.below hb1)).mono (fun e w2 ⟨he,hw⟩ =>⟨he,hb1.trans (hw.mono hb1.size)⟩))).mono ?_
   rintro e w' ⟨he,hb⟩
   rw [oz HV] at he
   subst he
   exact hK _ _ ⟨zaa U 4 _,(by rw [zac d2,zac d3];rfl),(oz HJ).put 4 _ h0 hb (zfg hb) rfl zfh (fun h =>absurd h (by decide))⟩
  ·refine wpOp_step rfl (fun K hK =>?_)
   clear hlt hif
   have d4:U 4=.bool bb:=(oz HJ).val 4 (zab hi 4 (by kernel_rfl))
   go_simp
   refine (zaF bb 36 w).mono ?_
   rw [oz HZZ]
   rintro e w' ⟨rfl,rfl⟩
   exact hK _ _ ⟨zaa U 5 _,(by rw [zac d4];rfl),(oz HJ).put 5 _ h0 (Below.refl _ _) (zfg (Below.refl _ _)) rfl zfh (fun h =>absurd h (by decide))⟩
 ·rintro l a w ⟨U,rfl,hJ⟩ hall
  have d5:U 5=.int .i64 z:=hJ.val 5 (hall 5 (by decide) (by decide))
  have HBJ:=kz ((oz HB).trans (hJ.bel.mono (oz HB).size))
  clear hJ hall
  refine wpOp_step rfl (fun K hK =>?_)
  go_simp
  refine hK _ _ ?_
  clear hK
  go_wp2_with fail
  go_ret
  exact ⟨rfl,oz HBJ⟩
theorem zg4 (list:Int) (zs:List (Int × Int × Int)) (hn:zs.length≤1000000) (a:Option Addr) (c G:Nat) (fs lb:Array Value) (eg:∀ args w,(callFunc G args).run Tryz.prog w=.ok (.enter G args) w)
  (f:Nat→Int) (X:Nat→Prop) (J:Nat→World→Prop) (lo:Nat) (W:World) (hlo:lo≤W.heap.size) (hX:∀ b,X b→lo≤b∧b < W.heap.size) (hr:RowC W lo a (zcL zs)) (h0:J 0 W)
  (hst:∀ i w w',J i w→Below w.heap.size w w'→J i w')
  (hcall:∀ (i:Nat) (x:(Int × Int × Int)) (w:World),zs[i]?=some x→KeptX X W w→J i w→Calls Tryz.prog G (fs++#[.agg #[.int .i32 x.1,.int .i32 x.2.1,.int .i32 x.2.2]]++lb) w fun e w' =>e=.returned (.int .i64 (f i))∧J (i+1) w'∧KeptX X w w') :
  Calls Tryz.prog 111 #[.int .i64 list,.slice a zs.length c,.func (.func G) fs lb] W fun e w' =>e=.returned (wrV (zaG list zs.length f))∧KeptX X W w':=by
 have hB0:Below W.heap.size W (W.alloc (.cells #[.int .i64 0,.int .i64 0,.int .i64 0] 76)):=(Below.refl _ W).alloc (Nat.le_refl _) _
 have HS0:=kz (And.intro (zaw hB0 X) (And.intro (Blk.new W #[.int .i64 0,.int .i64 0,.int .i64 0] 76) (hst 0 _ _ h0 hB0)))
 have HA:=kz hr
 have HX:=kz (And.intro hlo hX)
 have HC:=kz (And.intro hst hcall)
 clear hB0 hr hlo hX hst hcall h0
 go_enter Tryz.func111,Tryz.ntmps111
 go_wp2
 generalize W.alloc (.cells #[.int .i64 0,.int .i64 0,.int .i64 0] 76)=w1 at *
 go_loopw [7,8,9,12] (fun _ _ _ s12 wr => ∃ k:Nat,k≤zs.length∧s12=.int .i64 k∧Hz (∀ i,i < k→f i=0)∧Hz (KeptX X W wr∧Blk wr W.heap.size #[.int .i64 0,.int .i64 0,.int .i64 0] 76∧J k wr)) (fun _ _ _ s12 _ =>zs.length - (intOf s12).toNat)
 case atStart =>exact ⟨0,Nat.zero_le _,rfl,kz (fun i hi =>absurd hi (Nat.not_lt_zero _)),HS0⟩
 case round =>
  obtain ⟨k,hk,rfl,HF,HS⟩:=hrel
  clear HS0
  by_cases hkn:k < zs.length
  ·obtain ⟨x,hx⟩:∃ x,zs[k]?=some x:=⟨_,List.getElem?_eq_getElem hkn⟩
   obtain ⟨g,q,rfl,hg,hc⟩:=oz HA (by rw [zel];omega)
   have e0:W.cell? ⟨g,q+k*3,none⟩=some (.int .i32 x.1):=hc _ _ (zdf _ k x hx).1
   have e1:W.cell? ⟨g,q+k*3+1,none⟩=some (.int .i32 x.2.1):=hc _ _ (zdf _ k x hx).2.1
   have e2:W.cell? ⟨g,q+k*3+2,none⟩=some (.int .i32 x.2.2):=hc _ _ (zdf _ k x hx).2.2
   have hgX:¬ X g:=fun q =>by have:=(oz HX).2 g q;omega
   have hgW:g < W.heap.size:=by have:=(oz HX).1;omega
   have c0:wr.cell? ⟨g,q+k*3,none⟩=some (.int .i32 x.1):=((oz HS).1.cell (p:=⟨g,q+k*3,none⟩) hgW hgX).trans e0
   have c1:wr.cell? ⟨g,q+k*3+1,none⟩=some (.int .i32 x.2.1):=((oz HS).1.cell (p:=⟨g,q+k*3+1,none⟩) hgW hgX).trans e1
   have c2:wr.cell? ⟨g,q+k*3+2,none⟩=some (.int .i32 x.2.2):=((oz HS).1.cell (p:=⟨g,q+k*3+2,none⟩) hgW hgX).trans e2
   have hB:Below wr.heap.size wr (wr.alloc (.cells #[.int .i32 x.1,.int .i32 x.2.1,.int .i32 x.2.2] 117)):=(Below.refl _ wr).alloc (Nat.le_refl _) _
   have HL:=kz (oz HC).2
   have HCL:=kz (oz HL k x (wr.alloc (.cells #[.int .i32 x.1,.int .i32 x.2.1,.int .i32 x.2.2] 117)) hx ((oz HS).1.trans (zaw hB X)) ((oz HC).1 k _ _ (oz HS).2.2 hB))
   have HR:=kz (((oz HS).1.trans (zaw hB X)))
   have HRB:=kz ((oz HS).2.1.alloc (.cells #[.int .i32 x.1,.int .i32 x.2.1,.int .i32 x.2.2] 117))
   have HRX:Hz (¬ X W.heap.size):=kz (fun q =>by have:=(oz HX).2 _ q;omega)
   have hk1:(k:Int) < (zs.length:Int):=by omega
   have hk2:((k:Nat):Int).toNat=k:=by omega
   have HFK:Hz (f k=0→∀ i,i < k+1→f i=0):=kz (fun h i hi =>by
    rcases Nat.lt_or_ge i k with h1 | h1
    ·exact oz HF i h1
    ·obtain rfl:i=k:=by omega
     exact h)
   have HFB:Hz (f k≠0→zaG list zs.length f=(f k,list,(k:Int))):=kz (fun h =>zba k hkn (oz HF) h)
   obtain ⟨x1,x2,x3⟩:=x
   dsimp only at c0 c1 c2 HCL HR HRB
   clear hx hc hB HL HS HF e0 e1 e2 hgX hgW hg
   generalize f k=y at *
   by_cases hy:y=0
   ·subst hy
    have HFK2:=kz (oz HFK rfl)
    clear HFK HFB
    go_wp2_with (go_at_fn G;refine (oz HCL).mono ?_;rintro e w' ⟨rfl,hj',hk'⟩)
    exact ⟨⟨k+1,by omega,by go_num,HFK2,kz ⟨(oz HR).trans hk',hk'.blk (oz HRB) (oz HRX),hj'⟩⟩,by simp [intOf];omega⟩
   ·have hy1:(y == 0)=false:=by simpa using hy
    have HFB2:=kz (oz HFB hy)
    clear HFK HFB
    go_wp2_with (go_at_fn G;refine (oz HCL).mono ?_;rintro e w' ⟨rfl,hj',hk'⟩;have HRB2:=kz (hk'.blk (oz HRB) (oz HRX));have r0:=(oz HRB2).cell 0;have r1:=(oz HRB2).cell 1;have r2:=(oz HRB2).cell 2;have f0:=(oz HRB2).frozen 0;have f1:=(oz HRB2).frozen 1;have f2:=(oz HRB2).frozen 2)
    rw [oz HFB2]
    exact bodyPost_ret (v:=wrV (y,list,(k:Int))) (zb8 Tryz.results111 rfl (zcf (oz HRB2) _ _ _) rfl) rfl ⟨rfl,((oz HR).trans hk').set3 (Nat.le_refl _) _ _ _⟩
  ·have hk1:¬ (k:Int) < (zs.length:Int):=by omega
   have HO2:Hz (zaG list zs.length f=(0,0,0)):=kz (zbE (fun i hi =>oz HF i (by omega)))
   have r0:=(oz HS).2.1.cell 0
   have r1:=(oz HS).2.1.cell 1
   have r2:=(oz HS).2.1.cell 2
   have f0:=(oz HS).2.1.frozen 0
   have f1:=(oz HS).2.1.frozen 1
   have f2:=(oz HS).2.1.frozen 2
   go_wp2_with fail
   rw [oz HO2]
   exact bodyPost_ret (v:=wrV (0,0,0)) (zb8 Tryz.results111 rfl (zcf (oz HS).2.1 _ _ _) rfl) rfl ⟨rfl,(oz HS).1.set3 (Nat.le_refl _) _ _ _⟩
theorem zrl {v:Value} {k:Lit} (h:keyOf Tryz.prog 21 v=some k):∃ r,v=.int .i32 r∧k=.int .i32 r∧R32 r:=by
 rw [keyOf_int Tryz.underlying21] at h
 unfold mapKey at h
 rw [Tryz.underlying21] at h
 cases v <;> simp at h
 obtain ⟨⟨rfl,hw⟩,rfl⟩:=h
 refine ⟨_,rfl,rfl, ?_⟩
 simp [Lit.wf,IntKind.min,IntKind.max,IntKind.signed,IntKind.bits] at hw
 exact hw
theorem zmw {P:Program} {w:World} {k:TypeId} {R:Value→Option (DataW Unit × List MemPlace)} {b n:Nat} {es:List (Lit × DataW Unit)} (h:w.ownsMap P k R b n (.map es)):∀ p ∈ es, ∃ v,keyOf P k v=some p.1:=by
 obtain ⟨es0,clock,_,F,_,e⟩:=h
 injection e with e
 subst e
 intro p hp
 obtain ⟨x,hx,rfl⟩:=List.mem_map.1 (mem_sorted.1 hp)
 obtain ⟨y,hy⟩:=F.reads x hx
 exact ⟨x.key,by rw [WideElems.rg_of hy];exact WideElems.rd_key hy⟩
theorem zoQ {w:World} {R:Value→Option (DataW Unit × List MemPlace)} {M n:Nat} {D:DataW Unit} (ho:w.ownsMap Tryz.prog 21 R M n D) (ks:List Int) (hnd:ks.Pairwise (·≠·)) (h32:∀ r ∈ ks,R32 r) (hk:∀ r,R32 r→(Maps.has D (.int .i32 r)=true ↔ r ∈ ks)):Maps.size D=ks.length:=by
 obtain ⟨es,rfl,hp,hkl⟩:=ho.entries (int_keyed Tryz.underlying21)
 have hkeys:=zmw ho
 have e1:(es.map (·.1)).Perm (ks.map (fun r =>Lit.int .i32 r)):=by
  refine (List.perm_ext_iff_of_nodup ?_ ?_).2 (fun a =>?_)
  ·rw [List.nodup_iff_pairwise_ne,List.pairwise_map]
   exact hp
  ·rw [List.nodup_iff_pairwise_ne,List.pairwise_map]
   exact hnd.imp (fun h e =>h (by injection e))
  ·rw [List.mem_map,List.mem_map]
   constructor
   ·rintro ⟨p,hpm,rfl⟩
    obtain ⟨v,hv⟩:=hkeys p hpm
    obtain ⟨r,_,e,hr⟩:=zrl hv
    refine ⟨r,(hk r hr).1 ?_,e.symm⟩
    rw [← e]
    exact List.any_eq_true.2 ⟨p,hpm,WideAt.sameKey_self (hkl p hpm)⟩
   ·rintro ⟨r,hr,rfl⟩
    obtain ⟨p,hpm,hs⟩:=List.any_eq_true.1 ((hk r (h32 r hr)).2 hr)
    exact ⟨p,hpm,WideAt.sameKey_eq hs⟩
 have:=e1.length_eq
 rw [List.length_map,List.length_map] at this
 exact this
theorem PaAt.len {T:TV} (hO:zav T) {w:World} {M n:Nat} (h:PaAt w M n T.pr) (ty:TypeId):(Builtin.len_ #[103] ty #[.map (some M)]).run Tryz.prog w=.ok (.int .i64 (T.pr.length:Nat)) w:=by
 obtain ⟨G,⟨D,ho,hD⟩,hg⟩:=h.mp
 rw [ho.len Tryz.underlying103 ty]
 have:=zoQ ho (T.pr.map (·.1)) (by rw [List.pairwise_map];exact hO.t3) (fun r hr =>by
  obtain ⟨x,hx,rfl⟩:=List.mem_map.1 hr
  exact zcq (hO.f3 x hx).1) (fun r hr =>by
  rw [(hD (.int .i32 r) trivial).1,List.mem_map]
  rcases hg r hr with ⟨h1,h2⟩ | ⟨x,hx,e,h2⟩
  ·rw [h2]
   constructor
   ·intro q;cases q
   ·rintro ⟨x,hx,e⟩
    exact absurd e (h1 x hx)
  ·rw [h2]
   exact ⟨fun _ =>⟨x,hx,e⟩,fun _ =>rfl⟩)
 rw [this,List.length_map]
theorem znH {T:TV} {r:Int} {q:Int × Int × Int} (h:zbC T r=some q):q ∈ T.pr:=List.mem_of_find?_eq_some h
structure ChS (w wr:World) (B:Nat) (T:TV) (b0:Int) (n:Nat) (cur:Int):Prop where
 n1:1≤n
 nl:n≤T.pr.length
 ch:zcu T T.pr.length b0 1=zcu T (T.pr.length - n+1) cur n
 bl:Below w.heap.size w wr
 bk:BookAt wr B T
theorem zj3 {T:TV} (hO:zav T) (B:Nat) (x:Int × Int × Int) (hx:x ∈ T.pr) (w:World) (h:BookAt w B T) :
  Calls Tryz.prog 136 #[.pointer (some ⟨B,0,none⟩),.agg #[.int .i32 x.1,.int .i32 x.2.1,.int .i32 x.2.2]] w fun e w' =>e=.returned (.int .i64 (prR T x))∧Below w.heap.size w w':=by
 have hlen:0 < T.pr.length:=List.length_pos_of_mem hx
 have hL:=hO.l3
 have h2:=zcq (hO.f3 x hx).2.1
 obtain ⟨x1,x2,x3⟩:=x
 dsimp only at h2 ⊢
 have hB:Below w.heap.size w (w.alloc (.cells #[.int .i32 x1,.int .i32 x2,.int .i32 x3] 117)):=(Below.refl _ w).alloc (Nat.le_refl _) _
 have q1:=(Blk.new w #[.int .i32 x1,.int .i32 x2,.int .i32 x3] 117).cell 1
 have HP:=kz (zhB hO B x2 h2 _ (h.below hB))
 have HB:=kz (And.intro hB (h.below hB))
 have HPR:Hz (∀ m,zcu T T.pr.length x2 1=m→prR T (x1,x2,x3)=match m with | none =>33 | some n =>if 4 < n then 34 else 0):=kz (fun m e =>by unfold prR;dsimp only;rw [e];cases m <;> rfl)
 have HO:=kz hO
 clear hB h hO h2 hx
 go_enter Tryz.func136,Tryz.ntmps136
 go_wp2_with fail
 refine (oz HP).mono ?_
 rintro e w2 ⟨rfl,hb⟩
 have H0:Hz (ChS w w2 B T x2 1 x2):=kz ⟨Nat.le_refl _,hlen,by rw [Nat.sub_add_cancel hlen],(oz HB).1.trans (hb.mono (oz HB).1.size),(oz HB).2.below hb⟩
 clear hb HB HP q1
 unfold zoD
 obtain ⟨bs,hbs⟩:∃ bs,((zbC T x2).map (·.2.1)).getD 0=bs:=⟨_,rfl⟩
 obtain ⟨mk,hmk⟩:∃ mk,((zbC T x2).map (·.2.2)).getD 0=mk:=⟨_,rfl⟩
 obtain ⟨mo,hmo⟩:∃ mo,(zbC T x2).isSome=mo:=⟨_,rfl⟩
 rw [hbs,hmk,hmo]
 have H0':Hz (∃ cur,((zbC T cur).map (·.2.1)).getD 0=bs∧(zbC T cur).isSome=mo∧ChS w w2 B T x2 1 cur):=kz ⟨x2,hbs,hmo,oz H0⟩
 clear hbs hmk hmo H0
 go_wp2_with fail
 go_loopw [5,6,8] (fun s5 s6 s8 wr => ∃ (n:Nat) (bs:Int) (mo:Bool),n≤4096∧s5=.int .i64 n∧s6=.int .i32 bs∧s8=.bool mo∧Hz (∃ cur,((zbC T cur).map (·.2.1)).getD 0=bs∧(zbC T cur).isSome=mo∧ChS w wr B T x2 n cur)) (fun s5 _ _ _ =>T.pr.length - (intOf s5).toNat)
 case atStart =>exact ⟨1,bs,mo,by omega,rfl,rfl,rfl,H0'⟩
 case round =>
  clear H0'
  obtain ⟨n,bs1,mo1,hn,rfl,rfl,rfl,HS⟩:=hrel
  obtain ⟨cur,hbs,hmo,hS⟩:=oz HS
  clear HS
  cases hq:zbC T cur with
  | none =>
   rw [hq] at hmo
   obtain rfl:mo1=false:=hmo.symm
   have HV:Hz (prR T (x1,x2,x3)=if 4 < n then 34 else 0):=kz (oz HPR (some n) (by
    rw [hS.ch]
    show (match zbC T cur with | none =>some n | some q =>_)=_
    rw [hq]))
   have HS:=kz hS
   clear hS hbs hmo hq HPR
   by_cases h4:4 < n
   ·have h4':(4:Int) < (n:Int):=by omega
    go_wp2_with fail
    refine (zaF true 34 _).mono ?_
    rintro e w5 ⟨rfl,hw⟩
    rw [hw]
    clear hw
    go_wp2_with fail
    go_ret
    exact ⟨by rw [oz HV,if_pos h4];rfl,(oz HS).bl⟩
   ·have h4':¬ (4:Int) < (n:Int):=by omega
    go_wp2_with fail
    refine (zaF false 34 _).mono ?_
    rintro e w5 ⟨rfl,hw⟩
    rw [hw]
    clear hw
    go_wp2_with fail
    go_ret
    exact ⟨by rw [oz HV,if_neg h4];rfl,(oz HS).bl⟩
  | some q =>
   rw [hq] at hmo hbs
   obtain rfl:mo1=true:=hmo.symm
   obtain rfl:q.2.1=bs1:=hbs
   obtain ⟨M,mn,c13,hpa⟩:=hS.bk.pas
   have hle:=hpa.len (oz HO)
   have hch:zcu T T.pr.length x2 1=zcu T (T.pr.length - n) q.2.1 (n+1):=by
    rw [hS.ch]
    show (match zbC T cur with | none =>some n | some q =>_)=_
    rw [hq]
   have hb32:=zcq ((oz HO).f3 q (znH hq)).2.1
   by_cases hl:n+1≤T.pr.length
   ·have hl':¬ (T.pr.length:Int) < (n:Int)+1:=by omega
    have HC:=kz (zhB (oz HO) B q.2.1 hb32 wr hS.bk)
    have HS:=kz (And.intro hch hS)
    have HL:=kz hl
    obtain ⟨q1,q2,q3⟩:=q
    dsimp only at HC HS ⊢
    clear hch hS hq hmo hpa hb32 hl
    go_wp2_with fail
    refine (oz HC).mono ?_
    rintro e w5 ⟨rfl,hb⟩
    have HN:Hz (ChS w w5 B T x2 (n+1) q2):=kz ⟨by omega,oz HL,by rw [(oz HS).1];congr 1;have:=oz HL;omega,(oz HS).2.bl.trans (hb.mono (oz HS).2.bl.size),(oz HS).2.bk.below hb⟩
    clear hb HC hle c13
    unfold zoD
    obtain ⟨bs2,hbs⟩:∃ bs,((zbC T q2).map (·.2.1)).getD 0=bs:=⟨_,rfl⟩
    obtain ⟨mk,hmk⟩:∃ mk,((zbC T q2).map (·.2.2)).getD 0=mk:=⟨_,rfl⟩
    obtain ⟨mo2,hmo⟩:∃ mo,(zbC T q2).isSome=mo:=⟨_,rfl⟩
    rw [hbs,hmk,hmo]
    have HN':Hz (∃ cur,((zbC T cur).map (·.2.1)).getD 0=bs2∧(zbC T cur).isSome=mo2∧ChS w w5 B T x2 (n+1) cur):=kz ⟨q2,hbs,hmo,oz HN⟩
    clear hbs hmk hmo HN
    go_wp2_with fail
    exact ⟨⟨n+1,bs2,mo2,by have:=oz HL;omega,by go_num,rfl,rfl,HN'⟩,by have:=oz HL;simp [intOf];omega⟩
   ·have hl':(T.pr.length:Int) < (n:Int)+1:=by omega
    have HV:Hz (prR T (x1,x2,x3)=33):=kz (oz HPR none (by
     rw [hch,show T.pr.length - n=0 by omega]
     rfl))
    have HS:=kz hS
    clear hch hS hq hmo hpa hb32 HPR
    go_wp2_with fail
    go_ret
    exact ⟨by rw [oz HV];rfl,(oz HS).bl⟩
end Go.Proofs.YtmemedpoaocdkaaGreat
