/- Texts of this claim, one behind the other. -/
import Derived.Test.YtmdgejgokoadlaaGreatDoorM33
import Derived.Test.YtmdgejgokoadlaaGreatDoorM2
import Derived.Test.YtmdgejgokoadlaaGreatDoorM1
/- What Parse reads the document reads: what the walk needs. -/
namespace Go.Proofs.YtmdgejgokoadlaaGreatDoor
open Go.RowKit Go.Shelf
set_option linter.unusedVariables false
def TabA (w:World) (T:TV) (X:Array Value):Prop := ∃ a0 a1 a2 a3 a4 a5 a6 a7 c0 c1 c2 c3 c4 c5 c6 c7 us,X=tabV T a0 a1 a2 a3 a4 a5 a6 a7 c0 c1 c2 c3 c4 c5 c6 c7∧TabIn w T a0 a1 a2 a3 a4 a5 a6 a7 us
theorem TabA.below {w w':World} {T:TV} {X:Array Value} (h:TabA w T X) (hb:Below w.heap.size w w'):TabA w' T X:=by
  obtain ⟨a0,a1,a2,a3,a4,a5,a6,a7,c0,c1,c2,c3,c4,c5,c6,c7,us,e,ht⟩:=h
  exact ⟨a0,a1,a2,a3,a4,a5,a6,a7,c0,c1,c2,c3,c4,c5,c6,c7,us,e,ht.lower hb⟩
theorem same_at (T:TV) (hO:TabOk T) (X Y:Array Value) (w:World) (hX:TabA w T X) (hY:TabA w T Y):Calls Tryz.prog 11 #[.agg X,.agg Y] w fun e w' =>e=.returned (.bool true)∧Below w.heap.size w w':=by
  obtain ⟨a0,a1,a2,a3,a4,a5,a6,a7,c0,c1,c2,c3,c4,c5,c6,c7,us,rfl,hx⟩:=hX
  obtain ⟨b0,b1,b2,b3,b4,b5,b6,b7,d0,d1,d2,d3,d4,d5,d6,d7,vs,rfl,hy⟩:=hY
  exact keepSame_row T hO a0 a1 a2 a3 a4 a5 a6 a7 b0 b1 b2 b3 b4 b5 b6 b7 c0 c1 c2 c3 c4 c5 c6 c7 d0 d1 d2 d3 d4 d5 d6 d7 us vs w hx hy
theorem tables_at (lo Tx:Nat) (vs:List Value) (T:TV) (eb el ec:Int) (hT:T.Le 1000000) (hO:TabOk T) (w:World) (h:TbAt w lo Tx vs (lsOf T (vs.drop 17)) eb el ec):Calls Tryz.prog 12 #[.pointer (some ⟨Tx,0,none⟩)] w fun e w' => ∃ X,e=.returned (.agg X)∧TabA w' T X∧Below w.heap.size w w':=by
  refine (tables_any lo Tx vs T eb el ec hT (fun s hs =>(hO.z0 s hs).2) w h).mono ?_
  rintro e w' ⟨v,rfl,hta,hb⟩
  obtain ⟨a0,a1,a2,a3,a4,a5,a6,a7,c0,c1,c2,c3,c4,c5,c6,c7,us,rfl,ht,_⟩:=hta.inn
  exact ⟨_,rfl,⟨a0,a1,a2,a3,a4,a5,a6,a7,c0,c1,c2,c3,c4,c5,c6,c7,us,rfl,ht⟩,hb⟩
structure TyF (s:ByteArray) (T:TV) (m:Int) (L N:Nat) (w3:World) (RA TA:List Value):Prop where
  ok:TabOk T
  le:T.Le 1000000
  all:T.All (Plc s)
  e:EnvK m w3
  hL:L=w3.heap.size
  b1:Blk w3 N RA.toArray 51
  sz:RA.length=17
  ts:TA.length=8
  o1:∀ v ∈ RA,v.oneCell'=true
  o2:∀ v ∈ TA,v.oneCell'=true
  tk:TA=RA.take 8
  ti:TabA w3 T TA.toArray
  wh:∀ (l r:Int) (w:World),Below L w3 w→Calls Tryz.prog 21 #[.string s,.agg RA.toArray,.int .i64 l,.int .i64 r] w fun e w' =>e=.returned (atV3 (whereV T (s.size:Nat) (endL s) (endC s) l r))∧Below w.heap.size w w'
theorem TyF.env {s:ByteArray} {T:TV} {m:Int} {L N:Nat} {w3 w:World} {RA TA:List Value} (h:TyF s T m L N w3 RA TA) (hb:Below L w3 w):EnvK m w:=h.e.below (by rw [← h.hL];exact hb)
theorem seventeen_all {cs:List Value} (h:cs.length=17):∃ v0 v1 v2 v3 v4 v5 v6 v7 v8 v9 v10 v11 v12 v13 v14 v15 v16,cs=[v0,v1,v2,v3,v4,v5,v6,v7,v8,v9,v10,v11,v12,v13,v14,v15,v16]:=by
  obtain ⟨v0,v1,v2,v3,v4,v5,v6,v7,v8,v9,v10,v11,v12,v13,v14,v15,v16,us,rfl⟩:=seventeen cs (by omega)
  obtain rfl:us=[]:=by simp only [List.length_cons] at h;exact List.length_eq_zero_iff.1 (by omega)
  exact ⟨v0,v1,v2,v3,v4,v5,v6,v7,v8,v9,v10,v11,v12,v13,v14,v15,v16,rfl⟩
theorem TyF.ld {s:ByteArray} {T:TV} {m:Int} {L N:Nat} {w3 w:World} {v0 v1 v2 v3 v4 v5 v6 v7 v8 v9 v10 v11 v12 v13 v14 v15 v16:Value} {TA:List Value} (h:TyF s T m L N w3 [v0,v1,v2,v3,v4,v5,v6,v7,v8,v9,v10,v11,v12,v13,v14,v15,v16] TA) (hb:Below L w3 w):w.cell? ⟨N,0,none⟩=some v0∧w.cell? ⟨N,1,none⟩=some v1∧w.cell? ⟨N,2,none⟩=some v2∧w.cell? ⟨N,3,none⟩=some v3∧w.cell? ⟨N,4,none⟩=some v4∧w.cell? ⟨N,5,none⟩=some v5∧w.cell? ⟨N,6,none⟩=some v6∧w.cell? ⟨N,7,none⟩=some v7∧w.cell? ⟨N,8,none⟩=some v8∧w.cell? ⟨N,9,none⟩=some v9∧w.cell? ⟨N,10,none⟩=some v10∧w.cell? ⟨N,11,none⟩=some v11∧w.cell? ⟨N,12,none⟩=some v12∧w.cell? ⟨N,13,none⟩=some v13∧w.cell? ⟨N,14,none⟩=some v14∧w.cell? ⟨N,15,none⟩=some v15∧w.cell? ⟨N,16,none⟩=some v16:=by
  have hk:Blk w N #[v0,v1,v2,v3,v4,v5,v6,v7,v8,v9,v10,v11,v12,v13,v14,v15,v16] 51:=h.b1.below (by rw [← h.hL];exact hb) h.b1.lt
  exact ⟨hk.cell 0,hk.cell 1,hk.cell 2,hk.cell 3,hk.cell 4,hk.cell 5,hk.cell 6,hk.cell 7,hk.cell 8,hk.cell 9,hk.cell 10,hk.cell 11,hk.cell 12,hk.cell 13,hk.cell 14,hk.cell 15,hk.cell 16⟩
theorem TyF.lt {s:ByteArray} {T:TV} {m:Int} {L N:Nat} {w3 w:World} {v0 v1 v2 v3 v4 v5 v6 v7 v8 v9 v10 v11 v12 v13 v14 v15 v16:Value} {TA:List Value} (h:TyF s T m L N w3 [v0,v1,v2,v3,v4,v5,v6,v7,v8,v9,v10,v11,v12,v13,v14,v15,v16] TA) (hb:Below L w3 w):w.cell? ⟨N,0,none⟩=some v0∧w.cell? ⟨N,1,none⟩=some v1∧w.cell? ⟨N,2,none⟩=some v2∧w.cell? ⟨N,3,none⟩=some v3∧w.cell? ⟨N,4,none⟩=some v4∧w.cell? ⟨N,5,none⟩=some v5∧w.cell? ⟨N,6,none⟩=some v6∧w.cell? ⟨N,7,none⟩=some v7:=by
  have hk:Blk w N #[v0,v1,v2,v3,v4,v5,v6,v7,v8,v9,v10,v11,v12,v13,v14,v15,v16] 51:=h.b1.below (by rw [← h.hL];exact hb) h.b1.lt
  exact ⟨hk.cell 0,hk.cell 1,hk.cell 2,hk.cell 3,hk.cell 4,hk.cell 5,hk.cell 6,hk.cell 7⟩
theorem TyF.rg {s:ByteArray} {T:TV} {m:Int} {L N:Nat} {w3 w:World} {RA TA:List Value} (h:TyF s T m L N w3 RA TA) (hb:Below L w3 w):w.rangeAt N 0 RA:=blk_range (h.b1.below (by rw [← h.hL];exact hb) h.b1.lt) (fun _ _ h =>h)
theorem TyF.tab {s:ByteArray} {T:TV} {m:Int} {L N:Nat} {w3 w:World} {RA TA:List Value} (h:TyF s T m L N w3 RA TA) (hb:Below L w3 w):TabA w T TA.toArray:=h.ti.below (by rw [← h.hL];exact hb)
structure TyS (s:ByteArray) (T:TV) (L lo Tx:Nat) (vs:List Value) (w3:World) (v:Value) (i:Nat) (w:World):Prop where
  bl:Below L w3 w
  ll:L≤w.heap.size
  tb:TbAt w lo Tx vs (lsOf T (vs.drop 17)) (s.size:Nat) (endL s) (endC s)
  kp:KpAt w L v i
  ki:i < 2
theorem TyS.below {s:ByteArray} {T:TV} {L lo Tx:Nat} {vs:List Value} {w3:World} {v:Value} {i:Nat} {w w':World} (h:TyS s T L lo Tx vs w3 v i w) (hb:Below w.heap.size w w'):TyS s T L lo Tx vs w3 v i w' :=
  ⟨h.bl.trans (hb.mono h.ll),Nat.le_trans h.ll hb.size,h.tb.fresh (below_grown2 (row:=none) hb),h.kp.below h.ki hb,h.ki⟩
theorem TyF.whereT {s:ByteArray} {T:TV} {m:Int} {L N lo Tx:Nat} {vs:List Value} {w3 w:World} {RA TA:List Value} {v:Value} {i:Nat} (h:TyF s T m L N w3 RA TA) (g:TyS s T L lo Tx vs w3 v i w) (l r:Int) (hl : -9223372036854775808≤l∧l≤9223372036854775807) (hr : -9223372036854775808≤r∧r≤9223372036854775807):Calls Tryz.prog 20 #[.pointer (some ⟨Tx,0,none⟩),.int .i64 l,.int .i64 r] w fun e w' =>e=.returned (atV3 (whereV T (s.size:Nat) (endL s) (endC s) l r))∧Below w.heap.size w w' :=
  whereT_any lo Tx vs T _ _ _ l r w g.tb hl hr (rows_le h.le)
theorem TyF.find {s:ByteArray} {T:TV} {m:Int} {L N lo Tx:Nat} {vs:List Value} {w3 w:World} {RA TA:List Value} {v:Value} {i:Nat} (h:TyF s T m L N w3 RA TA) (g:TyS s T L lo Tx vs w3 v i w) (l r:Int) (hl : -9223372036854775808≤l∧l≤9223372036854775807) (hr : -9223372036854775808≤r∧r≤9223372036854775807) (y0 y1 y2:Int) (hy:whereV T (s.size:Nat) (endL s) (endC s) l r=(y0,y1,y2)):Calls Tryz.prog 22 #[.pointer (some ⟨Tx,0,none⟩),.agg #[.int .i64 33,.int .i64 l,.int .i64 r]] w fun e w' => ∃ F,e=.returned (.iface 62 (.pointer (some ⟨F,0,none⟩)))∧w.heap.size≤F∧Blk w' F (rfCells ⟨y0,y1,y2,33⟩) 80∧Below w.heap.size w w':=by
  have:=find_33 lo Tx vs T _ _ _ l r w g.tb hl hr (rows_le h.le)
  rw [hy] at this
  exact this
theorem TyF.refused {s:ByteArray} {T:TV} {m:Int} {L N:Nat} {w3 w:World} {RA TA:List Value} {v:Value} {l r:Int} (h:TyF s T m L N w3 RA TA) (hs:s.size≤3000) (hb:Below L w3 w) (F:Nat) (y0 y1 y2:Int) (hy:whereV T (s.size:Nat) (endL s) (endC s) l r=(y0,y1,y2)) (hv:Kept w v F) (hF:Blk w F (rfCells ⟨y0,y1,y2,33⟩) 80):Calls Tryz.prog 19 #[.iface 62 (.pointer (some ⟨F,0,none⟩)),.agg #[.int .i64 y0,.int .i64 y1,.int .i64 y2],.int .i64 33,v] w fun e w' =>e=.returned (.tuple #[.pointer (some ⟨F,0,none⟩),.bool true])∧Below w.heap.size w w':=by
  have hp:=(where_plc s T h.all l r).le
  rw [hy] at hp
  dsimp only at hp
  have hE:=h.env hb
  exact refused_any F y0 y1 y2 33 v w hv hF (by omega) (by omega) hE.p.pow (by have:=hE.p.big;omega) hE.et (.inr (.inr (.inr rfl)))
theorem refA_one (T:TV) (a0 a1 a2 a3 a4 a5 a6 a7 e0 e1 e2 e3 e4 e5 e6 e7 e8:Option Addr) (c0 c1 c2 c3 c4 c5 c6 c7 f0 f1 f2 f3 f4 f5 f6 f7 f8:Nat):∀ v ∈ (refA T a0 a1 a2 a3 a4 a5 a6 a7 e0 e1 e2 e3 e4 e5 e6 e7 e8 c0 c1 c2 c3 c4 c5 c6 c7 f0 f1 f2 f3 f4 f5 f6 f7 f8).toList,v.oneCell'=true:=by
  intro v hv
  have h:v ∈ [.slice a0 T.sc.length c0,.slice a1 T.co.length c1,.slice a2 T.ma.length c2,.slice a3 T.pr.length c3,.slice a4 T.fo.length c4,.slice a5 T.lk.length c5,.slice a6 T.dr.length c6,.slice a7 T.al.length c7,.slice e0 0 f0,.slice e1 T.r1.length f1,.slice e2 T.r2.length f2,.slice e3 T.r3.length f3,.slice e4 T.r4.length f4,.slice e5 T.r5.length f5,.slice e6 T.r6.length f6,.slice e7 T.r7.length f7,.slice e8 T.r8.length f8]:=hv
  simp only [List.mem_cons,List.not_mem_nil,or_false] at h
  rcases h with rfl | rfl | rfl | rfl | rfl | rfl | rfl | rfl | rfl | rfl | rfl | rfl | rfl | rfl | rfl | rfl | rfl <;> rfl
theorem tabV_one (T:TV) (a0 a1 a2 a3 a4 a5 a6 a7:Option Addr) (c0 c1 c2 c3 c4 c5 c6 c7:Nat):∀ v ∈ (tabV T a0 a1 a2 a3 a4 a5 a6 a7 c0 c1 c2 c3 c4 c5 c6 c7).toList,v.oneCell'=true:=by
  intro v hv
  have h:v ∈ [.slice a0 T.sc.length c0,.slice a1 T.co.length c1,.slice a2 T.ma.length c2,.slice a3 T.pr.length c3,.slice a4 T.fo.length c4,.slice a5 T.lk.length c5,.slice a6 T.dr.length c6,.slice a7 T.al.length c7]:=hv
  simp only [List.mem_cons,List.not_mem_nil,or_false] at h
  rcases h with rfl | rfl | rfl | rfl | rfl | rfl | rfl | rfl <;> rfl
def RdOk (s:ByteArray) (T:TV) (w:World) (cs:List Value):Prop := ∃ a0 a1 a2 a3 a4 a5 a6 a7 e0 e1 e2 e3 e4 e5 e6 e7 e8 c0 c1 c2 c3 c4 c5 c6 c7 f0 f1 f2 f3 f4 f5 f6 f7 f8 us,cs.toArray=refA T a0 a1 a2 a3 a4 a5 a6 a7 e0 e1 e2 e3 e4 e5 e6 e7 e8 c0 c1 c2 c3 c4 c5 c6 c7 f0 f1 f2 f3 f4 f5 f6 f7 f8∧RefIn w T a0 a1 a2 a3 a4 a5 a6 a7 e0 e1 e2 e3 e4 e5 e6 e7 e8 us
theorem ty_start {s:ByteArray} {T:TV} {m:Int} {w1 w3:World} {cs:List Value} {N:Nat} (hs:s.size≤3000) (hok:TabOk T) (hle:T.Le 1000000) (hall:T.All (Plc s)) (hR:RdOk s T w1 cs) (hb:Below w1.heap.size w1 w3) (hE:EnvK m w3) (hB:Blk w3 N cs.toArray 51):∃ TA,TyF s T m w3.heap.size N w3 cs TA:=by
  obtain ⟨a0,a1,a2,a3,a4,a5,a6,a7,e0,e1,e2,e3,e4,e5,e6,e7,e8,c0,c1,c2,c3,c4,c5,c6,c7,f0,f1,f2,f3,f4,f5,f6,f7,f8,us,e,hr⟩:=hR
  obtain rfl:cs=(refA T a0 a1 a2 a3 a4 a5 a6 a7 e0 e1 e2 e3 e4 e5 e6 e7 e8 c0 c1 c2 c3 c4 c5 c6 c7 f0 f1 f2 f3 f4 f5 f6 f7 f8).toList:=by rw [← e]
  refine ⟨(tabV T a0 a1 a2 a3 a4 a5 a6 a7 c0 c1 c2 c3 c4 c5 c6 c7).toList,⟨hok,hle,hall,hE,rfl,hB,rfl,rfl,refA_one T a0 a1 a2 a3 a4 a5 a6 a7 e0 e1 e2 e3 e4 e5 e6 e7 e8 c0 c1 c2 c3 c4 c5 c6 c7 f0 f1 f2 f3 f4 f5 f6 f7 f8,tabV_one T a0 a1 a2 a3 a4 a5 a6 a7 c0 c1 c2 c3 c4 c5 c6 c7,rfl,⟨a0,a1,a2,a3,a4,a5,a6,a7,c0,c1,c2,c3,c4,c5,c6,c7,us,rfl,hr.ti.lower hb⟩, ?_⟩⟩
  intro l r w hw
  exact rwhere_any s (by omega) T hall hle a0 a1 a2 a3 a4 a5 a6 a7 e0 e1 e2 e3 e4 e5 e6 e7 e8 c0 c1 c2 c3 c4 c5 c6 c7 f0 f1 f2 f3 f4 f5 f6 f7 f8 us l r w ((hr.lower hb).lower hw)
set_option maxRecDepth 100000 in
set_option maxHeartbeats 4000000 in
theorem told5_yes (s:ByteArray) (hs:s.size≤3000) (k:Nat) (T:TV) (hP:parseA s=⟨k,none,T⟩) (list row:Int) (hli : -9223372036854775808≤list∧list≤9223372036854775807) (hro : -9223372036854775808≤row∧row≤9223372036854775807) (m:Int) (W:World) (hE:EnvK m W) :
    Calls Tryz.prog 7 #[.string s,.int .i64 list,.int .i64 row] W fun e w' =>e=.returned (.bool true)∧Below W.heap.size W w':=by
  obtain ⟨q1,q2,q3,q4⟩:=parse_small hs hP
  have hall:=parse_all s
  rw [hP] at hall
  have HG:=kz (And.intro q3 (And.intro q4 hall))
  have HRP:Hz (Calls Tryz.prog 16 #[.string s] W fun e w' => ∃ cs:List Value,e=.returned (.tuple #[.agg cs.toArray,.agg #[.int .i64 0,.int .i64 0,.int .i64 0],.int .i64 0])∧cs.length=17∧(∀ v ∈ cs,v.oneCell'=true)∧RdOk s T w' cs∧Below W.heap.size W w'):=kz ((rparse_eq s (by omega) _ hP W).mono (fun e w' h =>by
    obtain ⟨vs,lo,he,_,hlv,hL⟩:=h.1
    obtain ⟨a0,a1,a2,a3,a4,a5,a6,a7,e0,e1,e2,e3,e4,e5,e6,e7,e8,c0,c1,c2,c3,c4,c5,c6,c7,f0,f1,f2,f3,f4,f5,f6,f7,f8,us,hE2,hr⟩:=ref_in hL hlv
    exact ⟨vs.take 17,he,by rw [List.length_take];omega,fun v hv =>rr_one hL v (List.mem_of_mem_take hv),⟨a0,a1,a2,a3,a4,a5,a6,a7,e0,e1,e2,e3,e4,e5,e6,e7,e8,c0,c1,c2,c3,c4,c5,c6,c7,f0,f1,f2,f3,f4,f5,f6,f7,f8,us,hE2,hr⟩,h.2⟩))
  have HPA:=kz (fun (w:World) (h:EnvK m w) =>parse_eq s (by omega) _ hP m w h.max (by have:=h.p.big;omega))
  have HE:=kz hE
  have HS:=kz hs
  clear hP hE q1 q2 q3 q4 hall hs
  have hmx:Tryz.prog.follows .mixedOrders=true:=by kernel_rfl
  obtain ⟨ip,hip⟩:=info_parts infoRfp
  have HIP:=kz hip
  clear hip
  go_enter Tryz.func7,Tryz.ntmps7
  go_wp2_with fail
  refine (oz HRP).mono ?_
  rintro e w1 ⟨cs,rfl,hcl,hone,hrest,hb1⟩
  have HX0:=kz (bx2_new w1)
  have hk2:=(oz HX0).2.kept (setCells_grown w1.heap.size cs 0 _) (fun e =>by have:=Option.some.inj e;omega)
  have g0:=hk2.cell 0
  have h0:=hk2.frozen 0
  have g1:=hk2.cell 1
  have h1:=hk2.frozen 1
  have g2:=hk2.cell 2
  have h2:=hk2.frozen 2
  have HCL:=kz hcl
  have HON:=kz hone
  have HRS:=kz (And.intro hrest hb1)
  clear hone hk2 hcl hrest hb1 HRP
  go_wp2_with (refine store_text rfl _ _ rfl w1.heap.size cs [.slice none 0 0,.slice none 0 0,.slice none 0 0,.slice none 0 0,.slice none 0 0,.slice none 0 0,.slice none 0 0,.slice none 0 0,.slice none 0 0,.slice none 0 0,.slice none 0 0,.slice none 0 0,.slice none 0 0,.slice none 0 0,.slice none 0 0,.slice none 0 0,.slice none 0 0] rfl rfl (oz HX0).1 rfl (oz HCL) (oz HON) ?_)
  have K:=fin2s (oz HX0) cs (oz HCL) (Value.int .i64 0) (Value.int .i64 0) (Value.int .i64 0)
  have HBA:Hz (Below w1.heap.size w1 ((w1.alloc (.cells #[.slice none 0 0,.slice none 0 0,.slice none 0 0,.slice none 0 0,.slice none 0 0,.slice none 0 0,.slice none 0 0,.slice none 0 0,.slice none 0 0,.slice none 0 0,.slice none 0 0,.slice none 0 0,.slice none 0 0,.slice none 0 0,.slice none 0 0,.slice none 0 0,.slice none 0 0] 51)).alloc (.cells #[.int .i64 0,.int .i64 0,.int .i64 0] 53))):=kz (((Below.refl _ w1).alloc (Nat.le_refl _) _).alloc (by simp) _)
  generalize (w1.alloc (.cells #[.slice none 0 0,.slice none 0 0,.slice none 0 0,.slice none 0 0,.slice none 0 0,.slice none 0 0,.slice none 0 0,.slice none 0 0,.slice none 0 0,.slice none 0 0,.slice none 0 0,.slice none 0 0,.slice none 0 0,.slice none 0 0,.slice none 0 0,.slice none 0 0,.slice none 0 0] 51)).alloc (.cells #[.int .i64 0,.int .i64 0,.int .i64 0] 53)=wa at *
  generalize (((wa.setCells w1.heap.size 0 cs).setCell ⟨w1.heap.size+1,0,none⟩ (Value.int .i64 0)).setCell ⟨w1.heap.size+1,1,none⟩ (Value.int .i64 0)).setCell ⟨w1.heap.size+1,2,none⟩ (Value.int .i64 0)=w3 at K ⊢
  have HB3:Hz (Below w1.heap.size w1 w3):=kz ((oz HBA).trans K.be)
  have HK3:=kz K
  clear K g0 g1 g2 h0 h1 h2 HX0 HBA
  obtain ⟨TA,hF⟩:=ty_start (oz HS) (oz HG).1 (oz HG).2.1 (oz HG).2.2 (oz HRS).1 (oz HB3) (((oz HE).below (oz HRS).2).below (oz HB3)) (oz HK3).b1
  obtain ⟨L,hL⟩:∃ L,L=w3.heap.size:=⟨_,rfl⟩
  rw [← hL] at hF
  have HF:=kz hF
  have HLL:=kz hL
  have HW3:Hz (Below W.heap.size W w3):=kz ((oz HRS).2.trans ((oz HB3).mono (oz HRS).2.size))
  have hWL:W.heap.size≤L:=by rw [hL];exact (oz HW3).size
  obtain ⟨N,hN⟩:∃ N,N=w1.heap.size:=⟨_,rfl⟩
  rw [← hN] at HF ⊢
  obtain ⟨v0,v1,v2,v3,v4,v5,v6,v7,v8,v9,v10,v11,v12,v13,v14,v15,v16,rfl⟩:=seventeen_all (oz HCL)
  obtain rfl:TA=[v0,v1,v2,v3,v4,v5,v6,v7]:=(oz HF).tk
  clear hL hF hN HRS HB3 HK3 HE HG HON
  go_loopw [10,11] (fun v10 v11 wr => ∃ i:Nat,i≤2∧v11=.int .i64 i∧Hz (KpAt wr L v10 i)∧Hz (Below L w3 wr)) (fun _ v11 _ =>2 - (intOf v11).toNat)
  case atStart =>exact ⟨0,by omega,rfl,kz rfl,kz (Below.refl _ _)⟩
  case round =>
    obtain ⟨i,hi2,rfl,HKp,HBr⟩:=hrel
    by_cases hi:i < 2
    · have k1:(i:Int) < 2:=by omega
      have HCP:=kz (oz HPA wr ((oz HF).env (oz HBr)))
      go_wp2_with fail
      refine (oz HCP).mono ?_
      rintro e w4 ⟨v4,er4,rfl,hb4,hpa⟩
      obtain ⟨rfl,Tx,lo,vs,rfl,hTx,hlo,hTb⟩:=hpa
      have hLr:L≤wr.heap.size:=by have:=(oz HBr).size;rw [← oz HLL] at this;exact this
      have HS4:Hz (TyS s T L lo Tx vs w3 u10 i w4):=kz ⟨(oz HBr).trans (hb4.mono hLr),Nat.le_trans hLr hb4.size,hTb,(oz HKp).below hi hb4,hi⟩
      have HCT:=kz (fun (w:World) (h:TyS s T L lo Tx vs w3 u10 i w) =>tables_at lo Tx vs T _ _ _ (oz HF).le (oz HF).ok w h.tb)
      have HSA:=kz (fun (X:Array Value) (w:World) (h:TyS s T L lo Tx vs w3 u10 i w) (hX:TabA w T X) =>same_at T (oz HF).ok X #[v0,v1,v2,v3,v4,v5,v6,v7] w hX ((oz HF).tab h.bl))
      have HD:Hz (TyS s T L lo Tx vs w3 u10 i w4.drew):=kz ((oz HS4).below ⟨rfl,rfl,rfl,Nat.le_refl _,fun _ _ =>rfl⟩)
      have z0:=(oz HF).lt (oz HD).bl
      clear hb4 hTb hTx hlo hLr HCP HBr HKp HS4
      go_wp2_with fail
      go_region_held3 (fun w' =>w'.cell? ⟨N,0,none⟩=some v0∧w'.cell? ⟨N,1,none⟩=some v1∧w'.cell? ⟨N,2,none⟩=some v2∧w'.cell? ⟨N,3,none⟩=some v3∧w'.cell? ⟨N,4,none⟩=some v4∧w'.cell? ⟨N,5,none⟩=some v5∧w'.cell? ⟨N,6,none⟩=some v6∧w'.cell? ⟨N,7,none⟩=some v7) (first | with_reducible exact z0 | with_reducible exact z1 | with_reducible exact z2 | with_reducible exact z3 | with_reducible exact z4)
        (first
        | (go_at_call 11;refine (oz HSA X2 w7 (oz HS7) (oz HX2)).mono ?_;rintro e w8 ⟨rfl,hb8⟩;have HS8:Hz (TyS s T L lo Tx vs w3 u10 i w8):=kz ((oz HS7).below hb8);have z4:=(oz HF).lt (oz HS8).bl;clear hb8)
        | (go_at_call 12;refine (oz HCT w6 (oz HS6)).mono ?_;rintro e w7 ⟨X2,rfl,hX2,hb7⟩;have HS7:Hz (TyS s T L lo Tx vs w3 u10 i w7):=kz ((oz HS6).below hb7);have HX2:=kz hX2;have z3:=(oz HF).lt (oz HS7).bl;clear hb7 hX2)
        | (go_at_call 11;refine (oz HSA X1 w5 (oz HS5) (oz HX1)).mono ?_;rintro e w6 ⟨rfl,hb6⟩;have HS6:Hz (TyS s T L lo Tx vs w3 u10 i w6):=kz ((oz HS5).below hb6);have z2:=(oz HF).lt (oz HS6).bl;clear hb6)
        | (go_at_call 12;refine (oz HCT w4.drew (oz HD)).mono ?_;rintro e w5 ⟨X1,rfl,hX1,hb5⟩;have HS5:Hz (TyS s T L lo Tx vs w3 u10 i w5):=kz ((oz HD).below hb5);have HX1:=kz hX1;have z1:=(oz HF).lt (oz HS5).bl;clear hb5 hX1))
      all_goals
        clear z0 z1 z2 z3 z4 HX1 HX2 HS5 HS6 HS7 HD HCT HSA
        go_wp2_with fail
        go_loopw [16] (fun v16 wr => ∃ l:Nat,l≤10∧v16=.int .i64 l∧Hz (TyS s T L lo Tx vs w3 u10 i wr)) (fun v16 _ =>10 - (intOf v16).toNat)
        case atStart =>exact ⟨0,by omega,rfl,HS8⟩
        case round =>
          obtain ⟨l,hl10,rfl,HSl⟩:=hrel
          clear HS8
          by_cases hl:l < 10
          · have l1:(l:Int) < 10:=by omega
            go_wp2_with fail
            obtain ⟨wl,hwl⟩:∃ wl,wl=wr:=⟨_,rfl⟩
            rw [← hwl] at HSl ⊢
            clear hwl
            go_loopw [17] (fun v17 wr => ∃ k:Int, -1≤k∧k≤12∧v17=.int .i64 k∧Hz (TyS s T L lo Tx vs w3 u10 i wr)) (fun v17 _ =>(12 - intOf v17).toNat)
            case atStart =>exact ⟨-1,by omega,by omega,rfl,HSl⟩
            case round =>
              obtain ⟨k,hk1,hk2,rfl,HSk⟩:=hrel
              clear HSl
              by_cases hk:k < 12
              · have HD:Hz (TyS s T L lo Tx vs w3 u10 i wr.drew):=kz ((oz HSk).below ⟨rfl,rfl,rfl,Nat.le_refl _,fun _ _ =>rfl⟩)
                have z0:=(oz HF).ld (oz HD).bl
                have HWT:=kz ((oz HF).whereT (oz HD) (l:Nat) k (by omega) (by omega))
                have HRW:=kz (fun (w:World) (h:TyS s T L lo Tx vs w3 u10 i w) =>(oz HF).wh (l:Nat) k w h.bl)
                generalize whereV T (s.size:Nat) (endL s) (endC s) (l:Nat) k=wv at *
                obtain ⟨y0,y1,y2⟩:=wv
                unfold atV3 at HWT HRW
                dsimp only at HWT HRW
                clear HSk
                go_wp2_with fail
                go_region_held3 (fun w' =>w'.cell? ⟨N,0,none⟩=some v0∧w'.cell? ⟨N,1,none⟩=some v1∧w'.cell? ⟨N,2,none⟩=some v2∧w'.cell? ⟨N,3,none⟩=some v3∧w'.cell? ⟨N,4,none⟩=some v4∧w'.cell? ⟨N,5,none⟩=some v5∧w'.cell? ⟨N,6,none⟩=some v6∧w'.cell? ⟨N,7,none⟩=some v7∧w'.cell? ⟨N,8,none⟩=some v8∧w'.cell? ⟨N,9,none⟩=some v9∧w'.cell? ⟨N,10,none⟩=some v10∧w'.cell? ⟨N,11,none⟩=some v11∧w'.cell? ⟨N,12,none⟩=some v12∧w'.cell? ⟨N,13,none⟩=some v13∧w'.cell? ⟨N,14,none⟩=some v14∧w'.cell? ⟨N,15,none⟩=some v15∧w'.cell? ⟨N,16,none⟩=some v16) (first | with_reducible exact z0 | with_reducible exact z1 | with_reducible exact z2)
                  (first
                  | (go_at_call 21;refine (oz HRW w5 (oz HS5)).mono ?_;rintro e w6 ⟨rfl,hb6⟩;have HS6:Hz (TyS s T L lo Tx vs w3 u10 i w6):=kz ((oz HS5).below hb6);have z2:=(oz HF).ld (oz HS6).bl;clear hb6)
                  | (go_at_call 20;refine (oz HWT).mono ?_;rintro e w5 ⟨rfl,hb5⟩;have HS5:Hz (TyS s T L lo Tx vs w3 u10 i w5):=kz ((oz HD).below hb5);have z1:=(oz HF).ld (oz HS5).bl;clear hb5))
                all_goals
                  clear z0 z1 z2 HS5 HD HWT HRW
                  go_wp2_with fail
                  go_roundw
                  case rel =>exact ⟨k+1,by omega,by omega,by simp,HS6⟩
                  case measure =>simp [intOf];omega
              · go_wp2_with fail
                go_roundw
                case rel =>exact ⟨l+1,by omega,by simp,HSk⟩
                case measure =>simp [intOf];omega
          · have l1:¬ (l:Int) < 10:=by omega
            have hld:=(oz HF).rg (oz HSl).bl
            have HRW:=kz ((oz HF).wh list row wr (oz HSl).bl)
            have HWT:=kz (fun (w:World) (h:TyS s T L lo Tx vs w3 u10 i w) =>(oz HF).whereT h list row hli hro)
            have HFI:=kz (fun (w:World) (h:TyS s T L lo Tx vs w3 u10 i w) (y0 y1 y2:Int) (hy:whereV T (s.size:Nat) (endL s) (endC s) list row=(y0,y1,y2)) =>(oz HF).find h list row hli hro y0 y1 y2 hy)
            have HRF:=kz (fun (F:Nat) (w:World) (h:TyS s T L lo Tx vs w3 u10 i w) (y0 y1 y2:Int) (hy:whereV T (s.size:Nat) (endL s) (endC s) list row=(y0,y1,y2)) (hv:Kept w u10 F) (hF:Blk w F (rfCells ⟨y0,y1,y2,33⟩) 80) =>(oz HF).refused (oz HS) h.bl F y0 y1 y2 hy hv hF)
            generalize whereV T (s.size:Nat) (endL s) (endC s) list row=wv at *
            obtain ⟨y0,y1,y2⟩:=wv
            unfold atV3 at HWT HRW
            dsimp only at HWT HRW
            have HLD:=kz hld
            clear hld
            go_wp2_with (refine load_text rfl _ rfl N 0 rfl [v0,v1,v2,v3,v4,v5,v6,v7,v8,v9,v10,v11,v12,v13,v14,v15,v16] (oz HLD) rfl ?_)
            refine (oz HRW).mono ?_
            rintro e w5 ⟨rfl,hb5⟩
            have HS5:Hz (TyS s T L lo Tx vs w3 u10 i w5):=kz ((oz HSl).below hb5)
            have HK:=kz (Blk.new w5 #[.int .i64 y0,.int .i64 y1,.int .i64 y2] 53)
            have HB6:=kz ((Below.refl w5.heap.size w5).alloc (Nat.le_refl _) (.cells #[.int .i64 y0,.int .i64 y1,.int .i64 y2] 53))
            clear hb5 HRW HLD HSl
            go_wp2_with fail
            generalize w5.alloc (.cells #[.int .i64 y0,.int .i64 y1,.int .i64 y2] 53)=w6 at *
            obtain ⟨B,hB⟩:∃ B,B=w5.heap.size:=⟨_,rfl⟩
            have HD:Hz (TyS s T L lo Tx vs w3 u10 i w6.drew):=kz (((oz HS5).below (oz HB6)).below ⟨rfl,rfl,rfl,Nat.le_refl _,fun _ _ =>rfl⟩)
            rw [← hB] at HK ⊢
            have hBl:B < w6.drew.heap.size:=(oz HK).lt
            have t0:w6.drew.cell? ⟨B,0,none⟩=some (.int .i64 y0):=(oz HK).cell 0
            have t1:w6.drew.cell? ⟨B,1,none⟩=some (.int .i64 y1):=(oz HK).cell 1
            have t2:w6.drew.cell? ⟨B,2,none⟩=some (.int .i64 y2):=(oz HK).cell 2
            clear hB HB6 HS5 HK
            go_region_held3 (fun w' =>w'.cell? ⟨B,0,none⟩=some (.int .i64 y0)∧w'.cell? ⟨B,1,none⟩=some (.int .i64 y1)∧w'.cell? ⟨B,2,none⟩=some (.int .i64 y2)) (first | with_reducible exact ⟨t0,t1,t2⟩ | with_reducible exact ⟨u0,u1,u2⟩ | with_reducible exact ⟨q0,q1,q2⟩)
              (first
              | (go_at_call 19;refine (oz HRG).mono ?_;rintro e w9 ⟨rfl,hb9⟩;have HS9:Hz (TyS s T L lo Tx vs w3 u10 i w9):=kz ((oz HS8).below hb9);have q0:=(hb9.cell (p:=⟨B,0,none⟩) hBl8).trans u0;have q1:=(hb9.cell (p:=⟨B,1,none⟩) hBl8).trans u1;have q2:=(hb9.cell (p:=⟨B,2,none⟩) hBl8).trans u2;have HF9:Hz (Blk w9 F (rfCells ⟨y0,y1,y2,33⟩) 80∧B < w9.heap.size):=kz ⟨(oz HF8).below hb9 (oz HF8).lt,Nat.lt_of_lt_of_le hBl8 hb9.size⟩;clear hb9)
              | (go_at_call 22;refine (oz HFI w6.drew (oz HD) y0 y1 y2 rfl).mono ?_;rintro e w8 ⟨F,rfl,hF,hbF,hb8⟩;have HS8:Hz (TyS s T L lo Tx vs w3 u10 i w8):=kz ((oz HD).below hb8);have HRG:=kz (oz HRF F w8 (oz HS8) y0 y1 y2 rfl ((oz HD).kp.kept (oz HD).ki hb8 hF) hbF);have HF8:=kz hbF;have hBl8:B < w8.heap.size:=Nat.lt_of_lt_of_le hBl hb8.size;have u0:=(hb8.cell (p:=⟨B,0,none⟩) hBl).trans t0;have u1:=(hb8.cell (p:=⟨B,1,none⟩) hBl).trans t1;have u2:=(hb8.cell (p:=⟨B,2,none⟩) hBl).trans t2;clear hb8 hF hbF))
            all_goals
              clear t0 t1 t2 u0 u1 u2 HRG HS8 HD hBl hBl8 HF8 HFI HRF
              have HD9:Hz (TyS s T L lo Tx vs w3 u10 i w9.drew):=kz ((oz HS9).below ⟨rfl,rfl,rfl,Nat.le_refl _,fun _ _ =>rfl⟩)
              have t0:w9.drew.cell? ⟨B,0,none⟩=some (.int .i64 y0):=q0
              have t1:w9.drew.cell? ⟨B,1,none⟩=some (.int .i64 y1):=q1
              have t2:w9.drew.cell? ⟨B,2,none⟩=some (.int .i64 y2):=q2
              have HF9d:Hz (Blk w9.drew F (rfCells ⟨y0,y1,y2,33⟩) 80∧B < w9.drew.heap.size):=HF9
              clear q0 q1 q2 HS9 HF9
              go_wp2_with fail
              go_region_held3 (fun w' =>w'.cell? ⟨B,0,none⟩=some (.int .i64 y0)∧w'.cell? ⟨B,1,none⟩=some (.int .i64 y1)∧w'.cell? ⟨B,2,none⟩=some (.int .i64 y2)) (first | with_reducible exact ⟨t0,t1,t2⟩ | with_reducible exact ⟨u0,u1,u2⟩ | with_reducible exact ⟨q0,q1,q2⟩)
                (first
                | (go_at_call 22;refine (find_zero Tx list row w11).mono ?_;rintro e w12 ⟨rfl,hb12⟩;have HS12:Hz (TyS s T L lo Tx vs w3 u10 i w12):=kz ((oz HS11).below hb12);have q0:=(hb12.cell (p:=⟨B,0,none⟩) (oz HF11).2).trans u0;have q1:=(hb12.cell (p:=⟨B,1,none⟩) (oz HF11).2).trans u1;have q2:=(hb12.cell (p:=⟨B,2,none⟩) (oz HF11).2).trans u2;have HF12:=kz ((oz HF11).1.below hb12 (oz HF11).1.lt);clear hb12)
                | (go_at_call 20;refine (oz HWT w9.drew (oz HD9)).mono ?_;rintro e w11 ⟨rfl,hb11⟩;have HS11:Hz (TyS s T L lo Tx vs w3 u10 i w11):=kz ((oz HD9).below hb11);have u0:=(hb11.cell (p:=⟨B,0,none⟩) (oz HF9d).2).trans t0;have u1:=(hb11.cell (p:=⟨B,1,none⟩) (oz HF9d).2).trans t1;have u2:=(hb11.cell (p:=⟨B,2,none⟩) (oz HF9d).2).trans t2;have HF11:Hz (Blk w11 F (rfCells ⟨y0,y1,y2,33⟩) 80∧B < w11.heap.size):=kz ⟨(oz HF9d).1.below hb11 (oz HF9d).1.lt,Nat.lt_of_lt_of_le (oz HF9d).2 hb11.size⟩;clear hb11))
              all_goals
                clear t0 t1 t2 u0 u1 u2 q0 q1 q2 HS11 HF11 HD9 HF9d HWT
                obtain ⟨xs,hxs⟩:=(oz HS12).kp.own hi
                have HXS:=kz hxs
                have hL12:L≤w12.heap.size:=(oz HS12).ll
                clear hxs
                go_wp2_with (at_builtin;refine append_k rfl _ _ 61 62 rfl ip (.pointer none) 1 8 Tryz.underlying61 (oz HIP) rfl (by decide) (by decide) L _ i xs [.pointer (some ⟨F,0,none⟩)] rfl rfl (by omega) w12 rfl (by intro u hu;simp at hu;rcases hu with rfl;rfl) (oz HXS) hL12 _ rfl rfl ?_)
                intro v6 w13 ho6 hg6
                have HB13:Hz (Below L w3 w13):=kz (below_grown3 ((oz HS12).bl.alloc hL12 _) (by simp;omega) ((oz HXS).alloc _) hg6)
                have HK13:Hz (KpAt w13 L v6 (i+1)):=kz ((oz HS12).kp.next hi (oz HXS) ho6 (blk_own (oz HF12) (oz HXS) hg6))
                clear ho6 hg6
                go_wp2_with fail
                go_roundw
                case rel =>exact ⟨i+1,by omega,by simp,HK13,HB13⟩
                case measure =>simp [intOf];omega
    · have k1:¬ (i:Int) < 2:=by omega
      go_wp2_with fail
      go_ret
      exact ⟨rfl,(oz HW3).trans ((oz HBr).mono hWL)⟩
def fewV (s:ByteArray) (n:Nat):ByteArray:=if n < s.size then s.extract 0 n else s
theorem fewV_size (s:ByteArray) (n:Nat):(fewV s n).size≤n:=by
  unfold fewV
  split
  · rw [ByteArray.size_extract];omega
  · omega
set_option maxRecDepth 100000 in
theorem few_any5 (s:ByteArray) (hs:s.size≤maxLen) (n:Nat) (hn:n≤1099511627776) (w:World):Calls Tryz.prog 6 #[.string s,.int .i64 n] w fun e w' =>e=.returned (.string (fewV s n))∧w'=w:=by
  unfold maxLen at hs
  unfold fewV
  by_cases h:n < s.size
  · rw [if_pos h]
    have h1:(n:Int) < (s.size:Int):=by omega
    have h2:(n:Int)≤(s.size:Int):=by omega
    go_enter Tryz.func6,Tryz.ntmps6
    go_wp2_with fail
    go_ret
    exact ⟨rfl,rfl⟩
  · rw [if_neg h]
    have h1:¬ (n:Int) < (s.size:Int):=by omega
    go_enter Tryz.func6,Tryz.ntmps6
    go_wp2_with fail
    go_ret
    exact ⟨rfl,rfl⟩

theorem within_any (n lo hi:Int) (hl : -4≤lo) (hlh:lo≤hi) (hh:hi≤1099511627776) (w:World):Calls Tryz.prog 8 #[.int .i64 n,.int .i64 lo,.int .i64 hi] w fun e w' =>e=.returned (.int .i64 (lo+n % (hi - lo+1)))∧w'=w:=by
  have hm:(hi - lo+1 == 0)=false:=by rw [beq_eq_false_iff_ne];omega
  have ht:=Int.tmod_eq_emod (a:=n) (b:=hi - lo+1)
  have h1:=Int.emod_nonneg n (show hi - lo+1≠0 by omega)
  have h2:=Int.emod_lt_of_pos n (show 0 < hi - lo+1 by omega)
  have hab:((hi - lo+1).natAbs:Int)=hi - lo+1:=by omega
  have HE:Hz ((n.tmod (hi - lo+1)=n % (hi - lo+1))∨(n.tmod (hi - lo+1)=n % (hi - lo+1) - (hi - lo+1))):=kz <| by
    rw [ht]
    split
    · exact .inl (by omega)
    · exact .inr (by omega)
  have H1:=kz h1
  have H2:=kz h2
  clear ht h1 h2 hab
  generalize n % (hi - lo+1)=q at *
  go_enter Tryz.func8,Tryz.ntmps8
  go_wp2
  all_goals rename_i hc
  all_goals go_ret
  all_goals refine ⟨?_,rfl⟩
  all_goals have he:=oz HE
  all_goals have h1:=oz H1
  all_goals have h2:=oz H2
  all_goals generalize n.tmod (hi - lo+1)=r at *
  all_goals first
    | (show Ending.returned (Value.int .i64 (wrap64 (lo+wrap64 (wrap64 (wrap64 (r+hi) - lo)+1))))=_;rw [show wrap64 (lo+wrap64 (wrap64 (wrap64 (r+hi) - lo)+1))=lo+q by unfold wrap64;omega])
    | (show Ending.returned (Value.int .i64 (wrap64 (lo+r)))=_;rw [show wrap64 (lo+r)=lo+q by unfold wrap64;omega])
theorem fit64 {n:Int} (h:(Lit.int .i64 n).wf=true) : -9223372036854775808≤n∧n≤9223372036854775807:=by
  have h2:(decide (IntKind.i64.min≤n) && decide (n≤IntKind.i64.max))=true:=h
  rw [Bool.and_eq_true,decide_eq_true_eq,decide_eq_true_eq] at h2
  exact h2
theorem told5_any (s:ByteArray) (hs:s.size≤3000) (list row:Int) (hli : -9223372036854775808≤list∧list≤9223372036854775807) (hro : -9223372036854775808≤row∧row≤9223372036854775807) (m:Int) (W:World) (hE:EnvK m W):Calls Tryz.prog 7 #[.string s,.int .i64 list,.int .i64 row] W fun e w' =>e=.returned (.bool true)∧Below W.heap.size W w':=by
  obtain ⟨P,hP⟩:∃ P,parseA s=P:=⟨_,rfl⟩
  obtain ⟨k,bad,T⟩:=P
  cases bad with
  | none =>exact told5_yes s hs k T hP list row hli hro m W hE
  | some f =>exact told5_bad s hs k f T hP list row m W hE
set_option maxRecDepth 100000 in
set_option maxHeartbeats 4000000 in
theorem parses_any5 (src:ByteArray) (hsrc:src.size≤maxLen) (z:Int) (list:Int) (hlw:(Lit.int .i64 list).wf=true) (row:Int) (hrw:(Lit.int .i64 row).wf=true) (m:Int) (w:World) (hE:EnvK m w):Calls Tryz.prog 3 #[.string src,.int .i64 z,.int .i64 list,.int .i64 row] w fun e w' =>e=.returned (.bool true)∧Below w.heap.size w w':=by
  have hli : -9223372036854775808≤list∧list≤9223372036854775807:=fit64 hlw
  have hro : -9223372036854775808≤row∧row≤9223372036854775807:=fit64 hrw
  have hfew:=few_any5 src hsrc 3000 (by decide) w
  have hz:=fewV_size src 3000
  generalize fewV src 3000=s at *
  have hwi:=within_any z 0 s.size (by omega) (by omega) (by omega)
  obtain ⟨q,hq⟩:∃ q:Nat,(0:Int)+z % ((s.size:Int) - 0+1)=q:=⟨(0+z % ((s.size:Int) - 0+1)).toNat,by have:=Int.emod_nonneg z (show (s.size:Int) - 0+1≠0 by omega);omega⟩
  have hq2:q≤s.size:=by have:=Int.emod_lt_of_pos z (show 0 < (s.size:Int) - 0+1 by omega);omega
  rw [hq] at hwi
  have hq3:(q:Int)≤(s.size:Int):=by omega
  have hT1:=fun w hE =>told5_any s (by omega) list row hli hro m w hE
  have hT2:=fun w hE =>told5_any (s.extract 0 q) (by rw [ByteArray.size_extract];omega) list row hli hro m w hE
  have H0:=kz hfew
  have H1:=kz hT1
  have H2:=kz hT2
  have H5:=kz hwi
  have HE:=kz hE
  clear hfew hT1 hT2 hwi hE hq hq2 hsrc hlw hrw hli hro
  go_enter Tryz.func3,Tryz.ntmps3
  go_wp2_with fail
  refine (oz H0).mono ?_
  rintro e w1 ⟨rfl,rfl⟩
  go_wp2_with fail
  refine (oz H1 _ (oz HE)).mono ?_
  rintro e w2 ⟨rfl,hb2⟩
  have HB2:=kz hb2
  clear hb2
  go_wp2_with fail
  refine (oz H5 _).mono ?_
  rintro e w3 ⟨rfl,rfl⟩
  go_wp2_with fail
  refine (oz H2 _ ((oz HE).below (oz HB2))).mono ?_
  rintro e w4 ⟨rfl,hb4⟩
  have HB4:=kz ((oz HB2).trans (hb4.mono (oz HB2).size))
  clear hb4
  go_wp2_with fail
  refine (known_any5 m _ ((oz HE).below (oz HB4))).mono ?_
  rintro e w6 ⟨rfl,hb6⟩
  have HB6:=kz ((oz HB4).trans (hb6.mono (oz HB4).size))
  clear hb6
  go_wp2_with fail
  go_ret
  exact ⟨rfl,oz HB6⟩
end Go.Proofs.YtmdgejgokoadlaaGreatDoor
