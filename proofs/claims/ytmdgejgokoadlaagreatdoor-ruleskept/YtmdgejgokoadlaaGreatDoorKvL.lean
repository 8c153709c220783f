/- RulesKept: a text's tables stay, and share nothing. -/
import Derived.Test.YtmdgejgokoadlaaGreatDoorM32
import Derived.Test.YtmdgejgokoadlaaGreatDoorM33
import Derived.Test.YtmdgejgokoadlaaGreatDoorM34
import Derived.Test.YtmdgejgokoadlaaGreatDoorM35
namespace Go.Proofs.YtmdgejgokoadlaaGreatDoor
open Go.RowKit Go.Shelf
set_option linter.unusedVariables false
theorem EnvK.four {m:Int} {W:World} (h:EnvK m W):4≤W.heap.size:=by have:=h.p.big;omega
theorem TabAt.below {w w':World} {lo:Nat} {T:TV} {v:Value} (h:TabAt w lo T v) (hb:Below w.heap.size w w'):TabAt w' lo T v:=by
 obtain ⟨v0,us,v1,v2,v3,v4,v5,v6,v7,e,hu,hL⟩:=h
 exact ⟨v0,us,v1,v2,v3,v4,v5,v6,v7,e,hu,hL.kept (zaF (row:=none) hb) (fun b e =>by cases e)⟩
theorem tabA_mk {w:World} {T:TV} {x0 x1 x2 x3 x4 x5 x6 x7:Option Addr} {q0 q1 q2 q3 q4 q5 q6 q7:Nat} {us:List Value} (h:TabIn w T x0 x1 x2 x3 x4 x5 x6 x7 us):TabA w T #[.slice x0 T.sc.length q0,.slice x1 T.co.length q1,.slice x2 T.ma.length q2,.slice x3 T.pr.length q3,.slice x4 T.fo.length q4,.slice x5 T.lk.length q5,.slice x6 T.dr.length q6,.slice x7 T.al.length q7]:=⟨x0,x1,x2,x3,x4,x5,x6,x7,q0,q1,q2,q3,q4,q5,q6,q7,us,rfl,h⟩
set_option maxRecDepth 100000 in
set_option maxHeartbeats 4000000 in
theorem kept_no (a:ByteArray) (ha:a.size≤maxLen) (b:ByteArray) (hb:b.size≤maxLen) (k:Nat) (f:Rf) (T:TV) (hP:zaD (fewV a 1500)=⟨k,some f,T⟩) (m:Int) (W:World) (hE:EnvK m W) (hR:EnvR W) :
  Calls Tryz.prog 5 #[.string a,.string b] W fun e w' =>e=.returned (.bool true)∧Below W.heap.size W w':=by
 have hmx:Tryz.prog.follows .mixedOrders=true:=by kernel_rfl
 have H1:=kz (zfO a ha 1500 (by decide) W)
 have H2:=kz (zfO b hb 1500 (by decide) W)
 have hs1:=zeS a 1500
 have hs2:=zeS b 1500
 generalize fewV a 1500=s at *
 generalize fewV b 1500=s2 at *
 have HPB:=kz (fun (w:World) (h:EnvK m w) =>zec s2 (by omega) _ rfl m w h.max (by have:=h.p.big;omega))
 have HPA:=kz (fun (w:World) (h:EnvK m w) =>zec s (by omega) _ hP m w h.max (by have:=h.p.big;omega))
 have hok:=parse_ref (show (zaD s).bad=some f by rw [hP])
 have hwn:f.why≠0:=by rcases hok.why with e | e | e <;> rw [e] <;> decide
 have HRP:Hz (Calls Tryz.prog 16 #[.string s] W fun e w' => ∃ cs:List Value,e=.returned (.tuple #[.agg cs.toArray,.agg #[.int .i64 f.b,.int .i64 f.l,.int .i64 f.c],.int .i64 f.why])∧cs.length=17∧(∀ v ∈ cs,v.oneCell'=true)∧True∧Below W.heap.size W w'):=kz ((zih s (by omega) _ hP W).mono (fun e w' h =>⟨List.replicate 17 (.slice none 0 0),h.1,rfl,fun v hv =>by rw [(List.mem_replicate.1 hv).2];rfl,trivial,h.2⟩))
 have HE:=kz hE
 clear hok hP hE hR ha hb hs1 hs2
 obtain ⟨fb,fl,fc,fw⟩:=f
 dsimp only at HRP hwn
 have hf1:(fw != 0)=true:=by simpa using hwn
 have hf2:(fw == 0)=false:=by simpa using hwn
 go_enter Tryz.func5,Tryz.ntmps5
 go_wp2_with fail
 refine (oz H1).mono ?_
 rintro e wf ⟨rfl,hwf⟩
 rw [hwf]
 clear hwf
 go_wp2_with fail
 refine (oz H2).mono ?_
 rintro e wg ⟨rfl,hwg⟩
 rw [hwg]
 clear hwg H1 H2
 go_wp2_with fail
 refine (oz HRP).mono ?_
 rintro e w1 ⟨cs,rfl,hcl,hone,hrest,hb1⟩
 have HX0:=kz (zfl w1)
 have hk2:=(oz HX0).2.kept (zaQ w1.heap.size cs 0 _) (fun e =>by have:=Option.some.inj e;omega)
 have g0:=hk2.cell 0
 have h0:=hk2.frozen 0
 have g1:=hk2.cell 1
 have h1:=hk2.frozen 1
 have g2:=hk2.cell 2
 have h2:=hk2.frozen 2
 have HCL:=kz hcl
 have HON:=kz hone
 have HRS:=kz (And.intro hrest hb1)
 clear hone hk2 hcl hrest hb1 HRP
 have HEb:=kz (oz HE)
 go_wp2_with (refine ze2 rfl _ _ rfl w1.heap.size cs [.slice none 0 0,.slice none 0 0,.slice none 0 0,.slice none 0 0,.slice none 0 0,.slice none 0 0,.slice none 0 0,.slice none 0 0,.slice none 0 0,.slice none 0 0,.slice none 0 0,.slice none 0 0,.slice none 0 0,.slice none 0 0,.slice none 0 0,.slice none 0 0,.slice none 0 0] rfl rfl (oz HX0).1 rfl (oz HCL) (oz HON) ?_)
 have K:=fin2s (oz HX0) cs (oz HCL) (Value.int .i64 fb) (Value.int .i64 fl) (Value.int .i64 fc)
 have HBA:Hz (Below w1.heap.size w1 ((w1.alloc (.cells #[.slice none 0 0,.slice none 0 0,.slice none 0 0,.slice none 0 0,.slice none 0 0,.slice none 0 0,.slice none 0 0,.slice none 0 0,.slice none 0 0,.slice none 0 0,.slice none 0 0,.slice none 0 0,.slice none 0 0,.slice none 0 0,.slice none 0 0,.slice none 0 0,.slice none 0 0] 51)).alloc (.cells #[.int .i64 0,.int .i64 0,.int .i64 0] 53))):=kz (((Below.refl _ w1).alloc (Nat.le_refl _) _).alloc (by simp) _)
 generalize (w1.alloc (.cells #[.slice none 0 0,.slice none 0 0,.slice none 0 0,.slice none 0 0,.slice none 0 0,.slice none 0 0,.slice none 0 0,.slice none 0 0,.slice none 0 0,.slice none 0 0,.slice none 0 0,.slice none 0 0,.slice none 0 0,.slice none 0 0,.slice none 0 0,.slice none 0 0,.slice none 0 0] 51)).alloc (.cells #[.int .i64 0,.int .i64 0,.int .i64 0] 53)=wa at *
 generalize (((wa.setCells w1.heap.size 0 cs).setCell ⟨w1.heap.size+1,0,none⟩ (Value.int .i64 fb)).setCell ⟨w1.heap.size+1,1,none⟩ (Value.int .i64 fl)).setCell ⟨w1.heap.size+1,2,none⟩ (Value.int .i64 fc)=w3 at K ⊢
 have HB3:Hz (Below w1.heap.size w1 w3):=kz ((oz HBA).trans K.be)
 have HK3:=kz K
 clear K g0 g1 g2 h0 h1 h2 HX0 HBA
 have HE3:Hz (EnvK m w3):=kz (((oz HE).below (oz HRS).2).below (oz HB3))
 have HW3:Hz (Below W.heap.size W w3):=kz ((oz HRS).2.trans ((oz HB3).mono (oz HRS).2.size))
 clear HRS HB3 HK3 HCL HE HON HEb
 refine (oz HPA w3 (oz HE3)).mono ?_
 rintro e w4 ⟨v4,er4,rfl,hb4,hpa⟩
 obtain ⟨rfl,F,rfl,hF,hbF⟩:=hpa
 have HE4:=kz ((oz HE3).below hb4)
 have HW4:=kz ((oz HW3).trans (hb4.mono (oz HW3).size))
 clear hb4 hF hbF
 go_wp2_with fail
 refine (oz HPB w4 (oz HE4)).mono ?_
 rintro e w5 ⟨v5,er5,rfl,hb5,hpb⟩
 have HK:=kz (zfc m w5 ((oz HE4).below hb5))
 have HW5:=kz ((oz HW4).trans (hb5.mono (oz HW4).size))
 clear hb5 hpb
 go_wp2_with fail
 refine (oz HK).mono ?_
 rintro e w6 ⟨rfl,hb6⟩
 have HW6:=kz ((oz HW5).trans (hb6.mono (oz HW5).size))
 clear hb6
 go_wp2_with fail
 go_ret
 exact ⟨rfl,oz HW6⟩
set_option maxRecDepth 100000 in
set_option maxHeartbeats 4000000 in
theorem kept_yes (a:ByteArray) (ha:a.size≤maxLen) (b:ByteArray) (hb:b.size≤maxLen) (k:Nat) (T:TV) (hP:zaD (fewV a 1500)=⟨k,none,T⟩) (m:Int) (W:World) (hE:EnvK m W) (hR:EnvR W) :
  Calls Tryz.prog 5 #[.string a,.string b] W fun e w' =>e=.returned (.bool true)∧Below W.heap.size W w':=by
 have hmx:Tryz.prog.follows .mixedOrders=true:=by kernel_rfl
 have H1:=kz (zfO a ha 1500 (by decide) W)
 have H2:=kz (zfO b hb 1500 (by decide) W)
 have hs1:=zeS a 1500
 have hs2:=zeS b 1500
 generalize fewV a 1500=s at *
 generalize fewV b 1500=s2 at *
 obtain ⟨P2,hP2⟩:∃ P2,zaD s2=P2:=⟨_,rfl⟩
 obtain ⟨k2,bad2,T2⟩:=P2
 have HPB:=kz (fun (w:World) (h:EnvK m w) =>zec s2 (by omega) _ hP2 m w h.max (by have:=h.p.big;omega))
 have HPA:=kz (fun (w:World) (h:EnvK m w) =>zec s (by omega) _ hP m w h.max (by have:=h.p.big;omega))
 obtain ⟨q1,q2,q3,q4⟩:=zgc (by omega) hP
 have hall:=parse_all s
 rw [hP] at hall
 have HG:=kz (And.intro q3 (And.intro q4 hall))
 have HOK:=kz (zjt hP)
 have HSZ:Hz (s.size≤1048576):=kz (by omega)
 have HS3:Hz (s.size≤3000):=kz (by omega)
 have HY:Hz (bad2=none→zgC T2∧T2.Le 1000000):=kz (fun e =>by subst e;have:=zgc (by omega) hP2;exact this.2.2)
 have HRP:Hz (Calls Tryz.prog 16 #[.string s] W fun e w' => ∃ cs:List Value,e=.returned (.tuple #[.agg cs.toArray,.agg #[.int .i64 0,.int .i64 0,.int .i64 0],.int .i64 0])∧cs.length=17∧(∀ v ∈ cs,v.oneCell'=true)∧RdOk s T w' cs∧Below W.heap.size W w'):=kz ((zih s (by omega) _ hP W).mono (fun e w' h =>by
  obtain ⟨vs,lo,he,_,hlv,hL⟩:=h.1
  obtain ⟨a0,a1,a2,a3,a4,a5,a6,a7,e0,e1,e2,e3,e4,e5,e6,e7,e8,c0,c1,c2,c3,c4,c5,c6,c7,f0,f1,f2,f3,f4,f5,f6,f7,f8,us,hE2,hr⟩:=ref_in hL hlv
  exact ⟨vs.take 17,he,by rw [List.length_take];omega,fun v hv =>rr_one hL v (List.mem_of_mem_take hv),⟨a0,a1,a2,a3,a4,a5,a6,a7,e0,e1,e2,e3,e4,e5,e6,e7,e8,c0,c1,c2,c3,c4,c5,c6,c7,f0,f1,f2,f3,f4,f5,f6,f7,f8,us,hE2,hr⟩,h.2⟩))
 have HE:=kz hE
 have HR:=kz hR
 clear hP hP2 hE hR q1 q2 q3 q4 hall ha hb hs1 hs2
 go_enter Tryz.func5,Tryz.ntmps5
 go_wp2_with fail
 refine (oz H1).mono ?_
 rintro e wf ⟨rfl,hwf⟩
 rw [hwf]
 clear hwf
 go_wp2_with fail
 refine (oz H2).mono ?_
 rintro e wg ⟨rfl,hwg⟩
 rw [hwg]
 clear hwg H1 H2
 go_wp2_with fail
 refine (oz HRP).mono ?_
 rintro e w1 ⟨cs,rfl,hcl,hone,hrest,hb1⟩
 have HX0:=kz (zfl w1)
 have hk2:=(oz HX0).2.kept (zaQ w1.heap.size cs 0 _) (fun e =>by have:=Option.some.inj e;omega)
 have g0:=hk2.cell 0
 have h0:=hk2.frozen 0
 have g1:=hk2.cell 1
 have h1:=hk2.frozen 1
 have g2:=hk2.cell 2
 have h2:=hk2.frozen 2
 have HCL:=kz hcl
 have HON:=kz hone
 have HRS:=kz (And.intro hrest hb1)
 clear hone hk2 hcl hrest hb1 HRP
 go_wp2_with (refine ze2 rfl _ _ rfl w1.heap.size cs [.slice none 0 0,.slice none 0 0,.slice none 0 0,.slice none 0 0,.slice none 0 0,.slice none 0 0,.slice none 0 0,.slice none 0 0,.slice none 0 0,.slice none 0 0,.slice none 0 0,.slice none 0 0,.slice none 0 0,.slice none 0 0,.slice none 0 0,.slice none 0 0,.slice none 0 0] rfl rfl (oz HX0).1 rfl (oz HCL) (oz HON) ?_)
 have K:=fin2s (oz HX0) cs (oz HCL) (Value.int .i64 0) (Value.int .i64 0) (Value.int .i64 0)
 have HBA:Hz (Below w1.heap.size w1 ((w1.alloc (.cells #[.slice none 0 0,.slice none 0 0,.slice none 0 0,.slice none 0 0,.slice none 0 0,.slice none 0 0,.slice none 0 0,.slice none 0 0,.slice none 0 0,.slice none 0 0,.slice none 0 0,.slice none 0 0,.slice none 0 0,.slice none 0 0,.slice none 0 0,.slice none 0 0,.slice none 0 0] 51)).alloc (.cells #[.int .i64 0,.int .i64 0,.int .i64 0] 53))):=kz (((Below.refl _ w1).alloc (Nat.le_refl _) _).alloc (by simp) _)
 generalize (w1.alloc (.cells #[.slice none 0 0,.slice none 0 0,.slice none 0 0,.slice none 0 0,.slice none 0 0,.slice none 0 0,.slice none 0 0,.slice none 0 0,.slice none 0 0,.slice none 0 0,.slice none 0 0,.slice none 0 0,.slice none 0 0,.slice none 0 0,.slice none 0 0,.slice none 0 0,.slice none 0 0] 51)).alloc (.cells #[.int .i64 0,.int .i64 0,.int .i64 0] 53)=wa at *
 generalize (((wa.setCells w1.heap.size 0 cs).setCell ⟨w1.heap.size+1,0,none⟩ (Value.int .i64 0)).setCell ⟨w1.heap.size+1,1,none⟩ (Value.int .i64 0)).setCell ⟨w1.heap.size+1,2,none⟩ (Value.int .i64 0)=w3 at K ⊢
 have HB3:Hz (Below w1.heap.size w1 w3):=kz ((oz HBA).trans K.be)
 have HK3:=kz K
 clear K g0 g1 g2 h0 h1 h2 HX0 HBA
 obtain ⟨TA,hF⟩:=ty_start (oz HS3) (oz HG).1 (oz HG).2.1 (oz HG).2.2 (oz HRS).1 (oz HB3) (((oz HE).below (oz HRS).2).below (oz HB3)) (oz HK3).b1
 obtain ⟨L,hL⟩:∃ L,L=w3.heap.size:=⟨_,rfl⟩
 rw [← hL] at hF
 have HF:=kz hF
 have HLL:=kz hL
 have HW3:Hz (Below W.heap.size W w3):=kz ((oz HRS).2.trans ((oz HB3).mono (oz HRS).2.size))
 have hWL:W.heap.size≤L:=by rw [hL];exact (oz HW3).size
 have HR3:Hz (EnvR w3):=kz ((oz HR).lo (oz HE).four (oz HW3) (oz HW3).size)
 obtain ⟨N,hN⟩:∃ N,N=w1.heap.size:=⟨_,rfl⟩
 rw [← hN] at HF ⊢
 obtain ⟨v0,v1,v2,v3,v4,v5,v6,v7,v8,v9,v10,v11,v12,v13,v14,v15,v16,rfl⟩:=zhp (oz HCL)
 obtain rfl:TA=[v0,v1,v2,v3,v4,v5,v6,v7]:=(oz HF).tk
 clear hL hF hN HRS HB3 HK3 HE HON HR
 refine (oz HPA w3 (oz HF).e).mono ?_
 rintro e w4 ⟨v4,er4,rfl,hb4,hpa⟩
 obtain ⟨rfl,Tx,lo,vs,rfl,hTx,hlo,hTb⟩:=hpa
 have HE4:=kz ((oz HF).e.below hb4)
 have HB4:Hz (Below L w3 w4):=kz (by rw [oz HLL];exact hb4)
 have HTB4:=kz hTb
 clear hb4 hTx hlo hTb HPA
 go_wp2_with fail
 refine (oz HPB w4 (oz HE4)).mono ?_
 rintro e w5 ⟨v5,er5,rfl,hb5,hpb⟩
 have HE5:=kz ((oz HE4).below hb5)
 have HL4:Hz (L≤w4.heap.size):=kz (by have:=(oz HB4).size;rw [← oz HLL] at this;exact this)
 have HB5:Hz (Below L w3 w5):=kz ((oz HB4).trans (hb5.mono (oz HL4)))
 have HL5:Hz (L≤w5.heap.size):=kz (Nat.le_trans (oz HL4) hb5.size)
 have HTB5:=kz ((oz HTB4).fresh (zaF (row:=none) hb5))
 clear hb5 HPB HE4 HB4 HTB4 HL4
 cases bad2 with
 | some r2 =>
  obtain ⟨rfl,F2,rfl,_,_⟩:=hpb
  have HT6:=kz (zhY lo Tx vs T _ _ _ (oz HG).2.1 (oz HG).1 w5 (oz HTB5))
  go_wp2_with fail
  refine (oz HT6).mono ?_
  rintro e w6 ⟨X,rfl,hX,hb6⟩
  obtain ⟨x0,x1,x2,x3,x4,x5,x6,x7,q0,q1,q2,q3,q4,q5,q6,q7,us6,rfl,ht6⟩:=hX
  unfold zj2
  have hA6:Below w6.heap.size w6 (w6.alloc (.cells #[.slice x0 T.sc.length q0,.slice x1 T.co.length q1,.slice x2 T.ma.length q2,.slice x3 T.pr.length q3,.slice x4 T.fo.length q4,.slice x5 T.lk.length q5,.slice x6 T.dr.length q6,.slice x7 T.al.length q7] 33)):=(Below.refl _ w6).alloc (Nat.le_refl _) _
  have HTB7:=kz (((oz HTB5).fresh (zaF (row:=none) hb6)).fresh (zaF (row:=none) hA6))
  have HBW:=kz (Blk.new w6 #[.slice x0 T.sc.length q0,.slice x1 T.co.length q1,.slice x2 T.ma.length q2,.slice x3 T.pr.length q3,.slice x4 T.fo.length q4,.slice x5 T.lk.length q5,.slice x6 T.dr.length q6,.slice x7 T.al.length q7] 33)
  have HTW:Hz (TabA (w6.alloc (.cells #[.slice x0 T.sc.length q0,.slice x1 T.co.length q1,.slice x2 T.ma.length q2,.slice x3 T.pr.length q3,.slice x4 T.fo.length q4,.slice x5 T.lk.length q5,.slice x6 T.dr.length q6,.slice x7 T.al.length q7] 33)) T #[.slice x0 T.sc.length q0,.slice x1 T.co.length q1,.slice x2 T.ma.length q2,.slice x3 T.pr.length q3,.slice x4 T.fo.length q4,.slice x5 T.lk.length q5,.slice x6 T.dr.length q6,.slice x7 T.al.length q7]):=kz (tabA_mk (ht6.lower hA6))
  have HE7:=kz (((oz HE5).below hb6).below hA6)
  have HB7:Hz (Below L w3 (w6.alloc (.cells #[.slice x0 T.sc.length q0,.slice x1 T.co.length q1,.slice x2 T.ma.length q2,.slice x3 T.pr.length q3,.slice x4 T.fo.length q4,.slice x5 T.lk.length q5,.slice x6 T.dr.length q6,.slice x7 T.al.length q7] 33))):=kz (((oz HB5).trans (hb6.mono (oz HL5))).trans (hA6.mono (Nat.le_trans (oz HL5) hb6.size)))
  clear ht6 hb6 hA6 HT6 HTB5 HE5 HB5 HL5
  go_wp2_with fail
  generalize w6.alloc (.cells #[.slice x0 T.sc.length q0,.slice x1 T.co.length q1,.slice x2 T.ma.length q2,.slice x3 T.pr.length q3,.slice x4 T.fo.length q4,.slice x5 T.lk.length q5,.slice x6 T.dr.length q6,.slice x7 T.al.length q7] 33)=w7 at *
  obtain ⟨B,hB⟩:∃ B,B=w6.heap.size:=⟨_,rfl⟩
  rw [← hB] at HBW ⊢
  clear hB
  have HR7:Hz (EnvR w7):=kz ((oz HR3).lo (by have:=(oz HLL);rw [this];exact (oz HF).e.four) (oz HB7) (by have:=(oz HB7).size;rw [← oz HLL] at this;exact this))
  have HL7:Hz (L≤w7.heap.size):=kz (by have:=(oz HB7).size;rw [← oz HLL] at this;exact this)
  have HS:Hz (Below w7.heap.size w7 w7):=kz (Below.refl _ _)
  go_loopw [13] (fun i wr => ∃ k:Nat,k≤2∧i=.int .i64 k∧Hz (Below w7.heap.size w7 wr)) (fun i _ =>2 - (intOf i).toNat)
  case atStart =>exact ⟨0,by omega,rfl,HS⟩
  case round =>
   obtain ⟨k,hk,rfl,HBr⟩:=hrel
   clear HS
   have HTr:=kz ((oz HTB7).fresh (zaF (row:=none) (oz HBr)))
   have HBL:Hz (Below L w3 wr):=kz ((oz HB7).trans ((oz HBr).mono (oz HL7)))
   by_cases hk2:k < 2
   ·have k1:(k:Int) < 2:=by omega
    have HT:=kz (zdf lo Tx vs T _ _ _ (oz HG).2.1 (fun s hs =>((oz HG).1.z0 s hs).2) wr (oz HTr))
    go_wp2_with fail
    refine (oz HT).mono ?_
    rintro e wa ⟨va,rfl,htaa,hba⟩
    obtain ⟨t0,t1,t2,t3,t4,t5,t6,t7,p0,p1,p2,p3,p4,p5,p6,p7,ust,rfl,htin,_⟩:=htaa.inn
    have hA:Below wa.heap.size wa (wa.alloc (.cells #[.slice t0 T.sc.length p0,.slice t1 T.co.length p1,.slice t2 T.ma.length p2,.slice t3 T.pr.length p3,.slice t4 T.fo.length p4,.slice t5 T.lk.length p5,.slice t6 T.dr.length p6,.slice t7 T.al.length p7] 33)):=(Below.refl _ wa).alloc (Nat.le_refl _) _
    have HTA:Hz (TabAt (wa.alloc (.cells #[.slice t0 T.sc.length p0,.slice t1 T.co.length p1,.slice t2 T.ma.length p2,.slice t3 T.pr.length p3,.slice t4 T.fo.length p4,.slice t5 T.lk.length p5,.slice t6 T.dr.length p6,.slice t7 T.al.length p7] 33)) wr.heap.size T (.agg #[.slice t0 T.sc.length p0,.slice t1 T.co.length p1,.slice t2 T.ma.length p2,.slice t3 T.pr.length p3,.slice t4 T.fo.length p4,.slice t5 T.lk.length p5,.slice t6 T.dr.length p6,.slice t7 T.al.length p7])):=kz (htaa.below hA)
    have HTT:Hz (TabA (wa.alloc (.cells #[.slice t0 T.sc.length p0,.slice t1 T.co.length p1,.slice t2 T.ma.length p2,.slice t3 T.pr.length p3,.slice t4 T.fo.length p4,.slice t5 T.lk.length p5,.slice t6 T.dr.length p6,.slice t7 T.al.length p7] 33)) T #[.slice t0 T.sc.length p0,.slice t1 T.co.length p1,.slice t2 T.ma.length p2,.slice t3 T.pr.length p3,.slice t4 T.fo.length p4,.slice t5 T.lk.length p5,.slice t6 T.dr.length p6,.slice t7 T.al.length p7]):=kz ⟨t0,t1,t2,t3,t4,t5,t6,t7,p0,p1,p2,p3,p4,p5,p6,p7,ust,rfl,htin.lower hA⟩
    have HBt:=kz (Blk.new wa #[.slice t0 T.sc.length p0,.slice t1 T.co.length p1,.slice t2 T.ma.length p2,.slice t3 T.pr.length p3,.slice t4 T.fo.length p4,.slice t5 T.lk.length p5,.slice t6 T.dr.length p6,.slice t7 T.al.length p7] 33)
    have HBa:Hz (Below w7.heap.size w7 (wa.alloc (.cells #[.slice t0 T.sc.length p0,.slice t1 T.co.length p1,.slice t2 T.ma.length p2,.slice t3 T.pr.length p3,.slice t4 T.fo.length p4,.slice t5 T.lk.length p5,.slice t6 T.dr.length p6,.slice t7 T.al.length p7] 33))):=kz (((oz HBr).trans (hba.mono (oz HBr).size)).trans (hA.mono (Nat.le_trans (oz HBr).size hba.size)))
    have HRl:Hz (wr.heap.size≤(wa.alloc (.cells #[.slice t0 T.sc.length p0,.slice t1 T.co.length p1,.slice t2 T.ma.length p2,.slice t3 T.pr.length p3,.slice t4 T.fo.length p4,.slice t5 T.lk.length p5,.slice t6 T.dr.length p6,.slice t7 T.al.length p7] 33)).heap.size):=kz (Nat.le_trans hba.size hA.size)
    have HBW2:Hz (Below wr.heap.size wr (wa.alloc (.cells #[.slice t0 T.sc.length p0,.slice t1 T.co.length p1,.slice t2 T.ma.length p2,.slice t3 T.pr.length p3,.slice t4 T.fo.length p4,.slice t5 T.lk.length p5,.slice t6 T.dr.length p6,.slice t7 T.al.length p7] 33))):=kz (hba.trans (hA.mono hba.size))
    obtain ⟨z0,z1,z2,z3,z4,z5,z6,z7⟩:=(oz HF).lt ((oz HB7).trans ((oz HBa).mono (oz HL7)))
    clear htaa htin hba hA HT
    go_wp2_with fail
    generalize wa.alloc (.cells #[.slice t0 T.sc.length p0,.slice t1 T.co.length p1,.slice t2 T.ma.length p2,.slice t3 T.pr.length p3,.slice t4 T.fo.length p4,.slice t5 T.lk.length p5,.slice t6 T.dr.length p6,.slice t7 T.al.length p7] 33)=wb at *
    have HS1:=kz (ze6 T (oz HG).1 #[.slice t0 T.sc.length p0,.slice t1 T.co.length p1,.slice t2 T.ma.length p2,.slice t3 T.pr.length p3,.slice t4 T.fo.length p4,.slice t5 T.lk.length p5,.slice t6 T.dr.length p6,.slice t7 T.al.length p7] #[v0,v1,v2,v3,v4,v5,v6,v7] wb (oz HTT) ((oz HF).tab ((oz HB7).trans ((oz HBa).mono (oz HL7)))))
    clear z0 z1 z2 z3 z4 z5 z6 z7
    refine (oz HS1).mono ?_
    rintro e wc ⟨rfl,hbc⟩
    have HBc:Hz (Below w7.heap.size w7 wc):=kz ((oz HBa).trans (hbc.mono (oz HBa).size))
    have HTc:=kz ((oz HTA).below hbc)
    have HBtc:=kz ((oz HBt).below hbc (oz HBt).lt)
    have HWc:Hz (Below wr.heap.size wr wc):=kz ((oz HBW2).trans (hbc.mono (oz HRl)))
    have HRc:Hz (wr.heap.size≤wc.heap.size):=kz (Nat.le_trans (oz HRl) hbc.size)
    obtain ⟨z0,z1,z2,z3,z4,z5,z6,z7⟩:=(oz HF).lt ((oz HB7).trans ((oz HBc).mono (oz HL7)))
    have hbw:=(oz HBW).below (oz HBc) (oz HBW).lt
    have y0:=hbw.cell 0
    have y1:=hbw.cell 1
    have y2:=hbw.cell 2
    have y3:=hbw.cell 3
    have y4:=hbw.cell 4
    have y5:=hbw.cell 5
    have y6:=hbw.cell 6
    have y7:=hbw.cell 7
    have HS2:=kz (ze6 T (oz HG).1 #[.slice x0 T.sc.length q0,.slice x1 T.co.length q1,.slice x2 T.ma.length q2,.slice x3 T.pr.length q3,.slice x4 T.fo.length q4,.slice x5 T.lk.length q5,.slice x6 T.dr.length q6,.slice x7 T.al.length q7] #[v0,v1,v2,v3,v4,v5,v6,v7] wc ((oz HTW).below (oz HBc)) ((oz HF).tab ((oz HB7).trans ((oz HBc).mono (oz HL7)))))
    clear hbc hbw HS1 HTA HBt HBa HTT HRl HBW2
    go_wp2_with fail
    clear z0 z1 z2 z3 z4 z5 z6 z7 y0 y1 y2 y3 y4 y5 y6 y7
    refine (oz HS2).mono ?_
    rintro e wd ⟨rfl,hbd⟩
    have HBd:Hz (Below w7.heap.size w7 wd):=kz ((oz HBc).trans (hbd.mono (oz HBc).size))
    have HTd:=kz ((oz HTc).below hbd)
    have hbt:=(oz HBtc).below hbd (oz HBtc).lt
    have s0:=hbt.cell 0
    have s1:=hbt.cell 1
    have s2:=hbt.cell 2
    have s3:=hbt.cell 3
    have s4:=hbt.cell 4
    have s5:=hbt.cell 5
    have s6:=hbt.cell 6
    have s7:=hbt.cell 7
    have HWd:Hz (Below wr.heap.size wr wd):=kz ((oz HWc).trans (hbd.mono (oz HRc)))
    have HRd:Hz (wr.heap.size≤wd.heap.size):=kz (Nat.le_trans (oz HRc) hbd.size)
    have HSP:=kz (zfX T (oz HG).1.n0 wr.heap.size (.agg #[.slice t0 T.sc.length p0,.slice t1 T.co.length p1,.slice t2 T.ma.length p2,.slice t3 T.pr.length p3,.slice t4 T.fo.length p4,.slice t5 T.lk.length p5,.slice t6 T.dr.length p6,.slice t7 T.al.length p7]) wd (oz HTd) ((oz HR7).lo (oz HE7).four (oz HBd) (oz HBd).size) (Nat.le_trans (oz HE7).four (oz HBr).size) (oz HRd))
    clear hbd hbt HS2 HTc HBtc HBc HWc HRc
    go_wp2_with fail
    clear s0 s1 s2 s3 s4 s5 s6 s7
    refine (oz HSP).mono ?_
    rintro e we ⟨⟨re,rfl⟩,hbe⟩
    have HBe:Hz (Below w7.heap.size w7 we):=kz ((oz HBr).trans (((oz HWd).trans hbe).mono (oz HBr).size))
    clear hbe HSP HTd HBd HWd HRd
    go_wp2_with fail
    go_roundw
    case rel =>exact ⟨k+1,by omega,by simp,HBe⟩
    case measure =>simp [intOf];omega
   ·have k1:¬ (k:Int) < 2:=by omega
    have HRU:=kz (zgK s (oz HSZ) wr)
    go_wp2_with fail
    refine (oz HRU).mono ?_
    rintro e wa ⟨hyes,_,hba⟩
    obtain ⟨va,rfl,_⟩:=hyes (oz HOK)
    have HBa:Hz (Below w7.heap.size w7 wa):=kz ((oz HBr).trans (hba.mono (oz HBr).size))
    obtain ⟨z0,z1,z2,z3,z4,z5,z6,z7⟩:=(oz HF).lt ((oz HB7).trans ((oz HBa).mono (oz HL7)))
    have hbw:=(oz HBW).below (oz HBa) (oz HBW).lt
    have y0:=hbw.cell 0
    have y1:=hbw.cell 1
    have y2:=hbw.cell 2
    have y3:=hbw.cell 3
    have y4:=hbw.cell 4
    have y5:=hbw.cell 5
    have y6:=hbw.cell 6
    have y7:=hbw.cell 7
    have HS2:=kz (ze6 T (oz HG).1 #[.slice x0 T.sc.length q0,.slice x1 T.co.length q1,.slice x2 T.ma.length q2,.slice x3 T.pr.length q3,.slice x4 T.fo.length q4,.slice x5 T.lk.length q5,.slice x6 T.dr.length q6,.slice x7 T.al.length q7] #[v0,v1,v2,v3,v4,v5,v6,v7] wa ((oz HTW).below (oz HBa)) ((oz HF).tab ((oz HB7).trans ((oz HBa).mono (oz HL7)))))
    clear hba hbw hyes HRU
    go_wp2_with fail
    clear z0 z1 z2 z3 z4 z5 z6 z7 y0 y1 y2 y3 y4 y5 y6 y7
    refine (oz HS2).mono ?_
    rintro e wb ⟨rfl,hbb⟩
    have HBb:Hz (Below w7.heap.size w7 wb):=kz ((oz HBa).trans (hbb.mono (oz HBa).size))
    have HK:=kz (zfc m wb ((oz HE7).below (oz HBb)))
    clear hbb HS2 HBa
    go_wp2_with fail
    refine (oz HK).mono ?_
    rintro e wc ⟨rfl,hbc⟩
    have HBc:Hz (Below w7.heap.size w7 wc):=kz ((oz HBb).trans (hbc.mono (oz HBb).size))
    clear hbc
    go_wp2_with fail
    go_ret
    exact ⟨rfl,(oz HW3).trans (((oz HB7).trans ((oz HBc).mono (oz HL7))).mono hWL)⟩
 | none =>
  obtain ⟨rfl,Ty,loy,vy,rfl,_,_,hTy⟩:=hpb
  have HTY5:=kz hTy
  have HGY:=kz (oz HY rfl)
  clear hTy HY
  have HT6:=kz (zhY lo Tx vs T _ _ _ (oz HG).2.1 (oz HG).1 w5 (oz HTB5))
  go_wp2_with fail
  refine (oz HT6).mono ?_
  rintro e w6 ⟨X,rfl,hX,hb6⟩
  obtain ⟨x0,x1,x2,x3,x4,x5,x6,x7,q0,q1,q2,q3,q4,q5,q6,q7,us6,rfl,ht6⟩:=hX
  unfold zj2
  have hA6:Below w6.heap.size w6 (w6.alloc (.cells #[.slice x0 T.sc.length q0,.slice x1 T.co.length q1,.slice x2 T.ma.length q2,.slice x3 T.pr.length q3,.slice x4 T.fo.length q4,.slice x5 T.lk.length q5,.slice x6 T.dr.length q6,.slice x7 T.al.length q7] 33)):=(Below.refl _ w6).alloc (Nat.le_refl _) _
  have HTB7:=kz (((oz HTB5).fresh (zaF (row:=none) hb6)).fresh (zaF (row:=none) hA6))
  have HBW:=kz (Blk.new w6 #[.slice x0 T.sc.length q0,.slice x1 T.co.length q1,.slice x2 T.ma.length q2,.slice x3 T.pr.length q3,.slice x4 T.fo.length q4,.slice x5 T.lk.length q5,.slice x6 T.dr.length q6,.slice x7 T.al.length q7] 33)
  have HTW:Hz (TabA (w6.alloc (.cells #[.slice x0 T.sc.length q0,.slice x1 T.co.length q1,.slice x2 T.ma.length q2,.slice x3 T.pr.length q3,.slice x4 T.fo.length q4,.slice x5 T.lk.length q5,.slice x6 T.dr.length q6,.slice x7 T.al.length q7] 33)) T #[.slice x0 T.sc.length q0,.slice x1 T.co.length q1,.slice x2 T.ma.length q2,.slice x3 T.pr.length q3,.slice x4 T.fo.length q4,.slice x5 T.lk.length q5,.slice x6 T.dr.length q6,.slice x7 T.al.length q7]):=kz (tabA_mk (ht6.lower hA6))
  have HE7:=kz (((oz HE5).below hb6).below hA6)
  have HB7:Hz (Below L w3 (w6.alloc (.cells #[.slice x0 T.sc.length q0,.slice x1 T.co.length q1,.slice x2 T.ma.length q2,.slice x3 T.pr.length q3,.slice x4 T.fo.length q4,.slice x5 T.lk.length q5,.slice x6 T.dr.length q6,.slice x7 T.al.length q7] 33))):=kz (((oz HB5).trans (hb6.mono (oz HL5))).trans (hA6.mono (Nat.le_trans (oz HL5) hb6.size)))
  have HTY7:=kz (((oz HTY5).fresh (zaF (row:=none) hb6)).fresh (zaF (row:=none) hA6))
  clear HTY5 ht6 hb6 hA6 HT6 HTB5 HE5 HB5 HL5
  go_wp2_with fail
  generalize w6.alloc (.cells #[.slice x0 T.sc.length q0,.slice x1 T.co.length q1,.slice x2 T.ma.length q2,.slice x3 T.pr.length q3,.slice x4 T.fo.length q4,.slice x5 T.lk.length q5,.slice x6 T.dr.length q6,.slice x7 T.al.length q7] 33)=w7 at *
  obtain ⟨B,hB⟩:∃ B,B=w6.heap.size:=⟨_,rfl⟩
  rw [← hB] at HBW ⊢
  clear hB
  have HR7:Hz (EnvR w7):=kz ((oz HR3).lo (by have:=(oz HLL);rw [this];exact (oz HF).e.four) (oz HB7) (by have:=(oz HB7).size;rw [← oz HLL] at this;exact this))
  have HL7:Hz (L≤w7.heap.size):=kz (by have:=(oz HB7).size;rw [← oz HLL] at this;exact this)
  refine (zdf loy Ty vy T2 _ _ _ (oz HGY).2 (fun s hs =>((oz HGY).1.z0 s hs).2) w7 (oz HTY7)).mono ?_
  rintro e w8 ⟨v8,rfl,hta8,hb8⟩
  have HSP:=kz (zfX T2 (oz HGY).1.n0 w7.heap.size v8 w8 hta8 ((oz HR7).lo (oz HE7).four hb8 hb8.size) (oz HE7).four hb8.size)
  have HB8:=kz hb8
  clear hta8 hb8 HTY7
  go_wp2_with fail
  refine (oz HSP).mono ?_
  rintro e w9 ⟨⟨r9,rfl⟩,hb9⟩
  have HS:Hz (Below w7.heap.size w7 w9):=kz ((oz HB8).trans hb9)
  clear hb9 HB8 HSP
  go_wp2_with fail
  go_loopw [13] (fun i wr => ∃ k:Nat,k≤2∧i=.int .i64 k∧Hz (Below w7.heap.size w7 wr)) (fun i _ =>2 - (intOf i).toNat)
  case atStart =>exact ⟨0,by omega,rfl,HS⟩
  case round =>
   obtain ⟨k,hk,rfl,HBr⟩:=hrel
   clear HS
   have HTr:=kz ((oz HTB7).fresh (zaF (row:=none) (oz HBr)))
   have HBL:Hz (Below L w3 wr):=kz ((oz HB7).trans ((oz HBr).mono (oz HL7)))
   by_cases hk2:k < 2
   ·have k1:(k:Int) < 2:=by omega
    have HT:=kz (zdf lo Tx vs T _ _ _ (oz HG).2.1 (fun s hs =>((oz HG).1.z0 s hs).2) wr (oz HTr))
    go_wp2_with fail
    refine (oz HT).mono ?_
    rintro e wa ⟨va,rfl,htaa,hba⟩
    obtain ⟨t0,t1,t2,t3,t4,t5,t6,t7,p0,p1,p2,p3,p4,p5,p6,p7,ust,rfl,htin,_⟩:=htaa.inn
    have hA:Below wa.heap.size wa (wa.alloc (.cells #[.slice t0 T.sc.length p0,.slice t1 T.co.length p1,.slice t2 T.ma.length p2,.slice t3 T.pr.length p3,.slice t4 T.fo.length p4,.slice t5 T.lk.length p5,.slice t6 T.dr.length p6,.slice t7 T.al.length p7] 33)):=(Below.refl _ wa).alloc (Nat.le_refl _) _
    have HTA:Hz (TabAt (wa.alloc (.cells #[.slice t0 T.sc.length p0,.slice t1 T.co.length p1,.slice t2 T.ma.length p2,.slice t3 T.pr.length p3,.slice t4 T.fo.length p4,.slice t5 T.lk.length p5,.slice t6 T.dr.length p6,.slice t7 T.al.length p7] 33)) wr.heap.size T (.agg #[.slice t0 T.sc.length p0,.slice t1 T.co.length p1,.slice t2 T.ma.length p2,.slice t3 T.pr.length p3,.slice t4 T.fo.length p4,.slice t5 T.lk.length p5,.slice t6 T.dr.length p6,.slice t7 T.al.length p7])):=kz (htaa.below hA)
    have HTT:Hz (TabA (wa.alloc (.cells #[.slice t0 T.sc.length p0,.slice t1 T.co.length p1,.slice t2 T.ma.length p2,.slice t3 T.pr.length p3,.slice t4 T.fo.length p4,.slice t5 T.lk.length p5,.slice t6 T.dr.length p6,.slice t7 T.al.length p7] 33)) T #[.slice t0 T.sc.length p0,.slice t1 T.co.length p1,.slice t2 T.ma.length p2,.slice t3 T.pr.length p3,.slice t4 T.fo.length p4,.slice t5 T.lk.length p5,.slice t6 T.dr.length p6,.slice t7 T.al.length p7]):=kz ⟨t0,t1,t2,t3,t4,t5,t6,t7,p0,p1,p2,p3,p4,p5,p6,p7,ust,rfl,htin.lower hA⟩
    have HBt:=kz (Blk.new wa #[.slice t0 T.sc.length p0,.slice t1 T.co.length p1,.slice t2 T.ma.length p2,.slice t3 T.pr.length p3,.slice t4 T.fo.length p4,.slice t5 T.lk.length p5,.slice t6 T.dr.length p6,.slice t7 T.al.length p7] 33)
    have HBa:Hz (Below w7.heap.size w7 (wa.alloc (.cells #[.slice t0 T.sc.length p0,.slice t1 T.co.length p1,.slice t2 T.ma.length p2,.slice t3 T.pr.length p3,.slice t4 T.fo.length p4,.slice t5 T.lk.length p5,.slice t6 T.dr.length p6,.slice t7 T.al.length p7] 33))):=kz (((oz HBr).trans (hba.mono (oz HBr).size)).trans (hA.mono (Nat.le_trans (oz HBr).size hba.size)))
    have HRl:Hz (wr.heap.size≤(wa.alloc (.cells #[.slice t0 T.sc.length p0,.slice t1 T.co.length p1,.slice t2 T.ma.length p2,.slice t3 T.pr.length p3,.slice t4 T.fo.length p4,.slice t5 T.lk.length p5,.slice t6 T.dr.length p6,.slice t7 T.al.length p7] 33)).heap.size):=kz (Nat.le_trans hba.size hA.size)
    have HBW2:Hz (Below wr.heap.size wr (wa.alloc (.cells #[.slice t0 T.sc.length p0,.slice t1 T.co.length p1,.slice t2 T.ma.length p2,.slice t3 T.pr.length p3,.slice t4 T.fo.length p4,.slice t5 T.lk.length p5,.slice t6 T.dr.length p6,.slice t7 T.al.length p7] 33))):=kz (hba.trans (hA.mono hba.size))
    obtain ⟨z0,z1,z2,z3,z4,z5,z6,z7⟩:=(oz HF).lt ((oz HB7).trans ((oz HBa).mono (oz HL7)))
    clear htaa htin hba hA HT
    go_wp2_with fail
    generalize wa.alloc (.cells #[.slice t0 T.sc.length p0,.slice t1 T.co.length p1,.slice t2 T.ma.length p2,.slice t3 T.pr.length p3,.slice t4 T.fo.length p4,.slice t5 T.lk.length p5,.slice t6 T.dr.length p6,.slice t7 T.al.length p7] 33)=wb at *
    have HS1:=kz (ze6 T (oz HG).1 #[.slice t0 T.sc.length p0,.slice t1 T.co.length p1,.slice t2 T.ma.length p2,.slice t3 T.pr.length p3,.slice t4 T.fo.length p4,.slice t5 T.lk.length p5,.slice t6 T.dr.length p6,.slice t7 T.al.length p7] #[v0,v1,v2,v3,v4,v5,v6,v7] wb (oz HTT) ((oz HF).tab ((oz HB7).trans ((oz HBa).mono (oz HL7)))))
    clear z0 z1 z2 z3 z4 z5 z6 z7
    refine (oz HS1).mono ?_
    rintro e wc ⟨rfl,hbc⟩
    have HBc:Hz (Below w7.heap.size w7 wc):=kz ((oz HBa).trans (hbc.mono (oz HBa).size))
    have HTc:=kz ((oz HTA).below hbc)
    have HBtc:=kz ((oz HBt).below hbc (oz HBt).lt)
    have HWc:Hz (Below wr.heap.size wr wc):=kz ((oz HBW2).trans (hbc.mono (oz HRl)))
    have HRc:Hz (wr.heap.size≤wc.heap.size):=kz (Nat.le_trans (oz HRl) hbc.size)
    obtain ⟨z0,z1,z2,z3,z4,z5,z6,z7⟩:=(oz HF).lt ((oz HB7).trans ((oz HBc).mono (oz HL7)))
    have hbw:=(oz HBW).below (oz HBc) (oz HBW).lt
    have y0:=hbw.cell 0
    have y1:=hbw.cell 1
    have y2:=hbw.cell 2
    have y3:=hbw.cell 3
    have y4:=hbw.cell 4
    have y5:=hbw.cell 5
    have y6:=hbw.cell 6
    have y7:=hbw.cell 7
    have HS2:=kz (ze6 T (oz HG).1 #[.slice x0 T.sc.length q0,.slice x1 T.co.length q1,.slice x2 T.ma.length q2,.slice x3 T.pr.length q3,.slice x4 T.fo.length q4,.slice x5 T.lk.length q5,.slice x6 T.dr.length q6,.slice x7 T.al.length q7] #[v0,v1,v2,v3,v4,v5,v6,v7] wc ((oz HTW).below (oz HBc)) ((oz HF).tab ((oz HB7).trans ((oz HBc).mono (oz HL7)))))
    clear hbc hbw HS1 HTA HBt HBa HTT HRl HBW2
    go_wp2_with fail
    clear z0 z1 z2 z3 z4 z5 z6 z7 y0 y1 y2 y3 y4 y5 y6 y7
    refine (oz HS2).mono ?_
    rintro e wd ⟨rfl,hbd⟩
    have HBd:Hz (Below w7.heap.size w7 wd):=kz ((oz HBc).trans (hbd.mono (oz HBc).size))
    have HTd:=kz ((oz HTc).below hbd)
    have hbt:=(oz HBtc).below hbd (oz HBtc).lt
    have s0:=hbt.cell 0
    have s1:=hbt.cell 1
    have s2:=hbt.cell 2
    have s3:=hbt.cell 3
    have s4:=hbt.cell 4
    have s5:=hbt.cell 5
    have s6:=hbt.cell 6
    have s7:=hbt.cell 7
    have HWd:Hz (Below wr.heap.size wr wd):=kz ((oz HWc).trans (hbd.mono (oz HRc)))
    have HRd:Hz (wr.heap.size≤wd.heap.size):=kz (Nat.le_trans (oz HRc) hbd.size)
    have HSP:=kz (zfX T (oz HG).1.n0 wr.heap.size (.agg #[.slice t0 T.sc.length p0,.slice t1 T.co.length p1,.slice t2 T.ma.length p2,.slice t3 T.pr.length p3,.slice t4 T.fo.length p4,.slice t5 T.lk.length p5,.slice t6 T.dr.length p6,.slice t7 T.al.length p7]) wd (oz HTd) ((oz HR7).lo (oz HE7).four (oz HBd) (oz HBd).size) (Nat.le_trans (oz HE7).four (oz HBr).size) (oz HRd))
    clear hbd hbt HS2 HTc HBtc HBc HWc HRc
    go_wp2_with fail
    clear s0 s1 s2 s3 s4 s5 s6 s7
    refine (oz HSP).mono ?_
    rintro e we ⟨⟨re,rfl⟩,hbe⟩
    have HBe:Hz (Below w7.heap.size w7 we):=kz ((oz HBr).trans (((oz HWd).trans hbe).mono (oz HBr).size))
    clear hbe HSP HTd HBd HWd HRd
    go_wp2_with fail
    go_roundw
    case rel =>exact ⟨k+1,by omega,by simp,HBe⟩
    case measure =>simp [intOf];omega
   ·have k1:¬ (k:Int) < 2:=by omega
    have HRU:=kz (zgK s (oz HSZ) wr)
    go_wp2_with fail
    refine (oz HRU).mono ?_
    rintro e wa ⟨hyes,_,hba⟩
    obtain ⟨va,rfl,_⟩:=hyes (oz HOK)
    have HBa:Hz (Below w7.heap.size w7 wa):=kz ((oz HBr).trans (hba.mono (oz HBr).size))
    obtain ⟨z0,z1,z2,z3,z4,z5,z6,z7⟩:=(oz HF).lt ((oz HB7).trans ((oz HBa).mono (oz HL7)))
    have hbw:=(oz HBW).below (oz HBa) (oz HBW).lt
    have y0:=hbw.cell 0
    have y1:=hbw.cell 1
    have y2:=hbw.cell 2
    have y3:=hbw.cell 3
    have y4:=hbw.cell 4
    have y5:=hbw.cell 5
    have y6:=hbw.cell 6
    have y7:=hbw.cell 7
    have HS2:=kz (ze6 T (oz HG).1 #[.slice x0 T.sc.length q0,.slice x1 T.co.length q1,.slice x2 T.ma.length q2,.slice x3 T.pr.length q3,.slice x4 T.fo.length q4,.slice x5 T.lk.length q5,.slice x6 T.dr.length q6,.slice x7 T.al.length q7] #[v0,v1,v2,v3,v4,v5,v6,v7] wa ((oz HTW).below (oz HBa)) ((oz HF).tab ((oz HB7).trans ((oz HBa).mono (oz HL7)))))
    clear hba hbw hyes HRU
    go_wp2_with fail
    clear z0 z1 z2 z3 z4 z5 z6 z7 y0 y1 y2 y3 y4 y5 y6 y7
    refine (oz HS2).mono ?_
    rintro e wb ⟨rfl,hbb⟩
    have HBb:Hz (Below w7.heap.size w7 wb):=kz ((oz HBa).trans (hbb.mono (oz HBa).size))
    have HK:=kz (zfc m wb ((oz HE7).below (oz HBb)))
    clear hbb HS2 HBa
    go_wp2_with fail
    refine (oz HK).mono ?_
    rintro e wc ⟨rfl,hbc⟩
    have HBc:Hz (Below w7.heap.size w7 wc):=kz ((oz HBb).trans (hbc.mono (oz HBb).size))
    clear hbc
    go_wp2_with fail
    go_ret
    exact ⟨rfl,(oz HW3).trans (((oz HB7).trans ((oz HBc).mono (oz HL7))).mono hWL)⟩
theorem kept_any5 (a:ByteArray) (ha:a.size≤maxLen) (b:ByteArray) (hb:b.size≤maxLen) (m:Int) (W:World) (hE:EnvK m W) (hR:EnvR W):Calls Tryz.prog 5 #[.string a,.string b] W fun e w' =>e=.returned (.bool true)∧Below W.heap.size W w':=by
 obtain ⟨P,hP⟩:∃ P,zaD (fewV a 1500)=P:=⟨_,rfl⟩
 obtain ⟨k,bad,T⟩:=P
 cases bad with
 | none =>exact kept_yes a ha b hb k T hP m W hE hR
 | some f =>exact kept_no a ha b hb k f T hP m W hE hR
end Go.Proofs.YtmdgejgokoadlaaGreatDoor
