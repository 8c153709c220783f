/- Texts of this claim, one behind the other. -/
import Derived.Test.YthchopdfmchpkaaGreatM23
namespace Go.Proofs.YthchopdfmchpkaaGreat
open Go.RowKit Go.Shelf Go.Maps
set_option linter.unusedVariables false
set_option maxRecDepth 100000
set_option maxHeartbeats 8000000
noncomputable def reg5:Code:=match Tryz.f59.body with
 | some (.seq _ (.seq _ (.seq (.seq _ (.block _ (.loop (.seq _ (.seq _ (.seq (.block _ (.seq _ r)) _)))))) _))) =>r
 | _ =>.skip
theorem zhB {w wr wb:World} {B k d:Nat} {b:Option Addr} {T:TV} {s1:ByteArray} {s2:List (Int × Int)} {t0 t1 t2 t3 t4 t5 t6 t7:Value} {Bc Bd Ba M5 M6 M7 MF ML:Nat} {sv:Value} {bs:List Nat} {z0 z1 z2 z4 z6 z7 z8 z9 z10 z11 z12 z13 z14 z15 z16 z17 z18 z19 z20 z21 z22 z23 z24 z25 z26 z27 z28 z29 z30 z31 z32 z33 z34 z35 z36 z37 z38 z39 z40 z41 z42 z43 z44 z45 z46 z47 z48 z49 z50 z51 z52 z53 z54 z55 z56 z57 z58 z59 z60 z61 z62 z63 z64 z65 z66 z67 z68 z69 z70 z71 z72 z73 z74 z75 z76 z77 z78 z79 z80 z81 z82 z83 z84 z85 z86 z87 z88 z89 z90 z91 z92 z93 z94 z95 z96 z97 z98 z99 z100:Value} {Q:Exit→Act→World→Prop} (hmx:Tryz.prog.follows .mixedOrders=true) (HS:Hz (ScSt w wr B T t0 t1 t2 t3 t4 t5 t6 t7 Bc Bd Ba M5 M6 M7 MF ML k sv bs)) (HF:Hz (∀ w2,KeptX (fun x =>sv.ownBlock=some x) wb.drew w2→Blk w2 wr.heap.size #[.string s1,.slice b s2.length d] 96∧Blk w2 B (zgH t0 t1 t2 t3 t4 t5 t6 t7 sv Bc Bd Ba M5 M6 M7 MF ML) 156∧RowC w2 w.heap.size b (zM s2)))
  (HX:Hz (T.sc[k]?=some (s1,s2)∧yO s2∧s2.length≤1000000∧RowC wr w.heap.size b (zM s2))) (HZ:Hz (Below wr.heap.size wr wb.drew∧w.heap.size≤wb.drew.heap.size∧(∀ x,sv.ownBlock=some x→x < wb.drew.heap.size)∧B < w.heap.size)) (hn0:T.sc.length≤1000000) (hkn:k≤T.sc.length)
  (hQ:∀ (U:Nat→Value) (wn:World) (sv2:Value) (bs2:List Nat),Hz (ScSt w wn B T t0 t1 t2 t3 t4 t5 t6 t7 Bc Bd Ba M5 M6 M7 MF ML (k+1) sv2 bs2)→Q .normal { tmps:=#[z0,z1,z2,.pointer (some ⟨B,0,none⟩),z4,.pointer (some ⟨wr.heap.size,0,none⟩),z6,z7,z8,z9,z10,z11,z12,z13,z14,z15,z16,z17,z18,z19,z20,z21,z22,z23,z24,z25,z26,z27,z28,z29,z30,z31,z32,z33,z34,z35,z36,z37,z38,z39,U 0,U 1,U 2,U 3,U 4,U 5,U 6,U 7,U 8,U 9,U 10,U 11,z52,z53,z54,z55,z56,z57,z58,z59,z60,z61,z62,z63,z64,z65,z66,z67,z68,z69,z70,z71,z72,z73,z74,z75,z76,z77,z78,z79,z80,z81,z82,z83,z84,z85,z86,z87,z88,z89,z90,z91,z92,z93,z94,z95,z96,z97,z98,z99,z100],defers := [] } wn) :
  Code.wp Tryz.prog reg5 Q { tmps:=#[z0,z1,z2,.pointer (some ⟨B,0,none⟩),z4,.pointer (some ⟨wr.heap.size,0,none⟩),z6,z7,z8,z9,z10,z11,z12,z13,z14,z15,z16,z17,z18,z19,z20,z21,z22,z23,z24,z25,z26,z27,z28,z29,z30,z31,z32,z33,z34,z35,z36,z37,z38,z39,z40,z41,z42,z43,z44,z45,z46,z47,z48,z49,z50,z51,z52,z53,z54,z55,z56,z57,z58,z59,z60,z61,z62,z63,z64,z65,z66,z67,z68,z69,z70,z71,z72,z73,z74,z75,z76,z77,z78,z79,z80,z81,z82,z83,z84,z85,z86,z87,z88,z89,z90,z91,z92,z93,z94,z95,z96,z97,z98,z99,z100],defers := [] } wb:=by
 have HQ:=kz hQ;clear hQ
 delta reg5 Tryz.f59
 dsimp only;refine zn hmx 12 (by decide) (by kernel_rfl) (by kernel_rfl) (fun l a wv => ∃ U:Nat→Value,a = { tmps:=#[z0,z1,z2,.pointer (some ⟨B,0,none⟩),z4,.pointer (some ⟨wr.heap.size,0,none⟩),z6,z7,z8,z9,z10,z11,z12,z13,z14,z15,z16,z17,z18,z19,z20,z21,z22,z23,z24,z25,z26,z27,z28,z29,z30,z31,z32,z33,z34,z35,z36,z37,z38,z39,U 0,U 1,U 2,U 3,U 4,U 5,U 6,U 7,U 8,U 9,U 10,U 11,z52,z53,z54,z55,z56,z57,z58,z59,z60,z61,z62,z63,z64,z65,z66,z67,z68,z69,z70,z71,z72,z73,z74,z75,z76,z77,z78,z79,z80,z81,z82,z83,z84,z85,z86,z87,z88,z89,z90,z91,z92,z93,z94,z95,z96,z97,z98,z99,z100],defers := [] }∧RgX wb.drew (fun x =>sv.ownBlock=some x) (scD B wr.heap.size sv k w.heap.size wb.drew.heap.size bs s2 b d) l U wv∧(l.getD 9 false=false→Below wb.drew.heap.size wb.drew wv)) ⟨fun x =>match x with | 0 =>z40 | 1 =>z41 | 2 =>z42 | 3 =>z43 | 4 =>z44 | 5 =>z45 | 6 =>z46 | 7 =>z47 | 8 =>z48 | 9 =>z49 | 10 =>z50 | _ =>z51,rfl,RgX.start _ _,fun _ =>zl⟩ ?_ ?_
 ·rintro l a wv i ⟨U,rfl,hJ,hJ9⟩ hl hi hif;have h0:=(mem_ready.1 hi).1;have hlt:=Xo hl h0;have HJ:=kz hJ;have H9:=kz hJ9;clear hJ hJ9
  replace hlt:i < 13:=hlt
  obtain rfl | rfl | rfl | rfl | rfl | rfl | rfl | rfl | rfl | rfl | rfl | rfl:i=0∨i=1∨i=2∨i=3∨i=4∨i=5∨i=6∨i=7∨i=8∨i=9∨i=10∨i=11:=by omega
  any_goals refine Ky rfl (fun K hK =>?_)
  ·clear hl hlt hif;go_simp;exact hK _ _ ⟨za U 0 _,rfl,(oz HJ).same 0 _ rfl,(fun h9 =>oz H9 (by rwa [getD_set_ne false (show (0:Nat)≠9 by decide)] at h9))⟩
  ·clear hl hlt hif;go_simp;exact hK _ _ ⟨za U 1 _,rfl,(oz HJ).same 1 _ rfl,(fun h9 =>oz H9 (by rwa [getD_set_ne false (show (1:Nat)≠9 by decide)] at h9))⟩
  ·have d1:U 1=.pointer (some ⟨B,0,none⟩):=(oz HJ).val 1 (zb hi 1 (by kernel_rfl));clear hl hlt hif;go_simp;exact hK _ _ ⟨za U 2 _,(by rw [zc d1];rfl),(oz HJ).same 2 _ rfl,(fun h9 =>oz H9 (by rwa [getD_set_ne false (show (2:Nat)≠9 by decide)] at h9))⟩
  ·have d2:U 2=.pointer (some ⟨B,0,none⟩):=(oz HJ).val 2 (zb hi 2 (by kernel_rfl));clear hl hlt hif;go_simp;exact hK _ _ ⟨za U 3 _,(by rw [zc d2];rfl),(oz HJ).same 3 _ rfl,(fun h9 =>oz H9 (by rwa [getD_set_ne false (show (3:Nat)≠9 by decide)] at h9))⟩
  ·have d3:U 3=.pointer (some ⟨B,8,none⟩):=(oz HJ).val 3 (zb hi 3 (by kernel_rfl));have q0:=(oz HF wv (oz HJ).kp).2.1.cell 8;rw [zeT] at q0;clear hl hlt hif;go_simp;exact hK _ _ ⟨za U 4 _,(by rw [zc d3];rfl),(oz HJ).same 4 _ rfl,(fun h9 =>oz H9 (by rwa [getD_set_ne false (show (4:Nat)≠9 by decide)] at h9))⟩
  ·clear hl hlt hif;go_simp;exact hK _ _ ⟨za U 5 _,rfl,(oz HJ).same 5 _ rfl,(fun h9 =>oz H9 (by rwa [getD_set_ne false (show (5:Nat)≠9 by decide)] at h9))⟩
  ·have d5:U 5=.pointer (some ⟨wr.heap.size,1,none⟩):=(oz HJ).val 5 (zb hi 5 (by kernel_rfl));have q0:=(oz HF wv (oz HJ).kp).1.cell 1;clear hl hlt hif;go_simp;exact hK _ _ ⟨za U 6 _,(by rw [zc d5];rfl),(oz HJ).same 6 _ rfl,(fun h9 =>oz H9 (by rwa [getD_set_ne false (show (6:Nat)≠9 by decide)] at h9))⟩
  ·have d6:U 6=.slice b s2.length d:=(oz HJ).val 6 (zb hi 6 (by kernel_rfl));clear hl hlt hif;go_simp;refine (Yy b d s2 (oz HX).2.2.1 (oz HX).2.1 wv (YB (oz HF wv (oz HJ).kp).2.2 (Nat.le_trans (oz HZ).2.1 (oz HJ).kp.size))).mono ?_;rintro e w' ⟨Bn,rfl,hs,hb⟩;exact hK _ _ ⟨za U 7 _,(by rw [zc d6];rfl),(oz HJ).put 7 _ (zt hb _) (fun j _ _ hD =>zil hb j _ hD) ⟨Bn,rfl,hs⟩,(fun h9 =>(oz H9 (by rwa [getD_set_ne false (show (7:Nat)≠9 by decide)] at h9)).trans (hb.mono (oz HJ).kp.size))⟩
  ·obtain ⟨Bn,d7,hs7⟩:=(oz HJ).val 7 (zb hi 7 (by kernel_rfl));have HS7:=kz hs7;clear hs7 hl hlt hif;go_simp;have hb:Below wv.heap.size wv (wv.alloc (.cells #[.pointer (some ⟨Bn,0,none⟩)] 147)):=(Below.refl _ wv).alloc zD _;exact hK _ _ ⟨za U 8 _,(by rw [zc d7];rfl),(oz HJ).put 8 _ (zt hb _) (fun j _ _ hD =>zil hb j _ hD) ⟨Bn,_,rfl,(oz HJ).kp.size,(oz HS7).below hb,Blk.new wv _ _⟩,(fun h9 =>(oz H9 (by rwa [getD_set_ne false (show (8:Nat)≠9 by decide)] at h9)).trans (hb.mono (oz HJ).kp.size))⟩
  ·have d4:U 4=sv:=(oz HJ).val 4 (zb hi 4 (by kernel_rfl));obtain ⟨Bn,q8,d8,hq8,hs8,hb8⟩:=(oz HJ).val 8 (zb hi 8 (by kernel_rfl));have hn9:l.getD 9 false=false:=by rw [← q9 (by rw [hl];decide)];exact h0
   have hrw:=zu (zu (oz HS).row (oz HZ).1) (oz H9 hn9);refine zhs rfl _ _ rfl w.heap.size sv k bs d4 hrw q8 Bn d8 hb8 (by omega) (Nat.le_trans (oz HZ).2.1 (oz HJ).kp.size) ?_;intro g9 cap9 w' hown hg9;have hkx:=zcH hg9;exact hK _ _ ⟨za U 9 _,rfl,(oz HJ).put 9 _ hkx (fun j _ hj hD =>zi2 (zbP hrw) hkx (oz HZ).2.2.1 j _ hj hD) ⟨Bn,g9,cap9,rfl,(zbP hrw).setV hkx hs8,hown⟩,(fun h9 =>by (rw [KD (by rw [hl];decide)] at h9;cases h9))⟩
  ·have d0:U 0=.pointer (some ⟨B,0,none⟩):=(oz HJ).val 0 (zb hi 0 (by kernel_rfl));clear hl hlt hif;go_simp;exact hK _ _ ⟨za U 10 _,(by rw [zc d0];rfl),(oz HJ).same 10 _ rfl,(fun h9 =>oz H9 (by rwa [getD_set_ne false (show (10:Nat)≠9 by decide)] at h9))⟩
  ·have d10:U 10=.pointer (some ⟨B,0,none⟩):=(oz HJ).val 10 (zb hi 10 (by kernel_rfl));clear hl hlt hif;go_simp;exact hK _ _ ⟨za U 11 _,(by rw [zc d10];rfl),(oz HJ).same 11 _ rfl,(fun h9 =>oz H9 (by rwa [getD_set_ne false (show (11:Nat)≠9 by decide)] at h9))⟩
 ·rintro l a wv ⟨U,rfl,hJ,_⟩ hall;obtain ⟨Bn,g9,cap9,d9,hs9,hown⟩:=hJ.val 9 (hall 9 (by decide) (by decide));have d11:U 11=.pointer (some ⟨B,8,none⟩):=hJ.val 11 (hall 11 (by decide) (by decide));have hbx:=(oz HF wv hJ.kp).2.1;have f8:=hbx.frozen 8;have q8:=hbx.cell 8;rw [zeT] at q8;have HN:=kz ((oz HS).next (oz HZ).2.2.2 (oz HZ).1 hJ.kp (oz HX).1 hs9 hown);clear hJ hall hbx hs9 hown;refine Ky rfl (fun K hK =>?_);go_simp;have e:=oz HQ U _ _ _ HN;rw [d9,d11] at e;exact hK _ _ e
theorem zeq (T:TV) (hO:zk0 T) (a0 a1 a2 a3 a4 a5 a6 a7:Option Addr) (c0 c1 c2 c3 c4 c5 c6 c7:Nat) (us:List Value) (W:World) (hT:TabIn W T a0 a1 a2 a3 a4 a5 a6 a7 us) :
  Calls Tryz.prog 59 #[.agg #[.slice a0 T.sc.length c0,.slice a1 T.co.length c1,.slice a2 T.ma.length c2,.slice a3 T.pr.length c3,.slice a4 T.fo.length c4,.slice a5 T.lk.length c5,.slice a6 T.dr.length c6,.slice a7 T.al.length c7]] W fun e w' => ∃ B,e=.returned (.pointer (some ⟨B,0,none⟩))∧W.heap.size≤B∧BookAt w' B T∧Below W.heap.size W w':=by
 have hmx:=zdA
 have hmm:=@run_makeMap Tryz.prog;have hB0:Below W.heap.size W (W.alloc (.cells #[.slice a0 T.sc.length c0,.slice a1 T.co.length c1,.slice a2 T.ma.length c2,.slice a3 T.pr.length c3,.slice a4 T.fo.length c4,.slice a5 T.lk.length c5,.slice a6 T.dr.length c6,.slice a7 T.al.length c7] 31)).drew:=((Below.refl _ W).alloc zD _).trans ⟨rfl,rfl,rfl,zD,fun _ _ =>rfl⟩;have bP:Blk (W.alloc (.cells #[.slice a0 T.sc.length c0,.slice a1 T.co.length c1,.slice a2 T.ma.length c2,.slice a3 T.pr.length c3,.slice a4 T.fo.length c4,.slice a5 T.lk.length c5,.slice a6 T.dr.length c6,.slice a7 T.al.length c7] 31)).drew W.heap.size #[.slice a0 T.sc.length c0,.slice a1 T.co.length c1,.slice a2 T.ma.length c2,.slice a3 T.pr.length c3,.slice a4 T.fo.length c4,.slice a5 T.lk.length c5,.slice a6 T.dr.length c6,.slice a7 T.al.length c7] 31:=Blk.new W #[.slice a0 T.sc.length c0,.slice a1 T.co.length c1,.slice a2 T.ma.length c2,.slice a3 T.pr.length c3,.slice a4 T.fo.length c4,.slice a5 T.lk.length c5,.slice a6 T.dr.length c6,.slice a7 T.al.length c7] 31;have HS1:Hz ((W.alloc (.cells #[.slice a0 T.sc.length c0,.slice a1 T.co.length c1,.slice a2 T.ma.length c2,.slice a3 T.pr.length c3,.slice a4 T.fo.length c4,.slice a5 T.lk.length c5,.slice a6 T.dr.length c6,.slice a7 T.al.length c7] 31)).drew.heap.size=W.heap.size+1):=kz (by show (W.alloc (.cells #[.slice a0 T.sc.length c0,.slice a1 T.co.length c1,.slice a2 T.ma.length c2,.slice a3 T.pr.length c3,.slice a4 T.fo.length c4,.slice a5 T.lk.length c5,.slice a6 T.dr.length c6,.slice a7 T.al.length c7] 31)).heap.size=_;simp);have hF:BoF (W.alloc (.cells #[.slice a0 T.sc.length c0,.slice a1 T.co.length c1,.slice a2 T.ma.length c2,.slice a3 T.pr.length c3,.slice a4 T.fo.length c4,.slice a5 T.lk.length c5,.slice a6 T.dr.length c6,.slice a7 T.al.length c7] 31)).drew W.heap.size T a0 a1 a2 a3 a4 a5 a6 a7 c0 c1 c2 c3 c4 c5 c6 c7 us:=⟨bP,hT.lower hB0⟩;have HF:Hz (∀ w1,Below (W.alloc (.cells #[.slice a0 T.sc.length c0,.slice a1 T.co.length c1,.slice a2 T.ma.length c2,.slice a3 T.pr.length c3,.slice a4 T.fo.length c4,.slice a5 T.lk.length c5,.slice a6 T.dr.length c6,.slice a7 T.al.length c7] 31)).drew.heap.size (W.alloc (.cells #[.slice a0 T.sc.length c0,.slice a1 T.co.length c1,.slice a2 T.ma.length c2,.slice a3 T.pr.length c3,.slice a4 T.fo.length c4,.slice a5 T.lk.length c5,.slice a6 T.dr.length c6,.slice a7 T.al.length c7] 31)).drew w1→BoF w1 W.heap.size T a0 a1 a2 a3 a4 a5 a6 a7 c0 c1 c2 c3 c4 c5 c6 c7 us):=kz (fun w1 h =>hF.below h);have HB0:=kz hB0;have HT:=kz hT;have HO:=kz hO;clear hT hO bP hB0 hF;go_enter Tryz.func59,Tryz.ntmps59;go_wp2_with fail
 generalize (W.alloc _)=wz at *;refine zn hmx 22 (by decide) (by kernel_rfl) (by kernel_rfl) (fun l a w => ∃ U:Nat→Value,a = { tmps:=#[.agg #[.slice a0 T.sc.length c0,.slice a1 T.co.length c1,.slice a2 T.ma.length c2,.slice a3 T.pr.length c3,.slice a4 T.fo.length c4,.slice a5 T.lk.length c5,.slice a6 T.dr.length c6,.slice a7 T.al.length c7],.pointer (some ⟨W.heap.size,0,none⟩),.pointer none,undef,undef,undef,undef,undef,undef,undef,undef,U 0,U 1,U 2,U 3,U 4,U 5,U 6,U 7,U 8,U 9,U 10,U 11,U 12,U 13,U 14,U 15,U 16,U 17,U 18,U 19,U 20,U 21,undef,undef,undef,undef,undef,undef,undef,undef,undef,undef,undef,undef,undef,undef,undef,undef,undef,undef,undef,undef,undef,undef,undef,undef,undef,undef,undef,undef,undef,undef,undef,undef,undef,undef,undef,undef,undef,undef,undef,undef,undef,undef,undef,undef,undef,undef,undef,undef,undef,undef,undef,undef,undef,undef,undef,undef,undef,undef,undef,undef,undef,undef,undef,undef,undef,undef,undef,undef],defers := [] }∧RgK wz.drew wz.drew.heap.size (boD W.heap.size wz.drew.heap.size T a0 a1 a2 a3 a4 a5 a6 a7 c0 c1 c2 c3 c4 c5 c6 c7) zjh zkz l U w) ⟨fun _ =>undef,rfl,RgK.start _ _ zD⟩ ?_ ?_
 ·rintro l a w i ⟨U,rfl,hJ⟩ hl hi hif;have h0:=(mem_ready.1 hi).1;have hlt:=Xo hl h0;have HJ:=kz hJ;clear hJ hl
  replace hlt:i < 23:=hlt
  obtain rfl | rfl | rfl | rfl | rfl | rfl | rfl | rfl | rfl | rfl | rfl | rfl | rfl | rfl | rfl | rfl | rfl | rfl | rfl | rfl | rfl | rfl:i=0∨i=1∨i=2∨i=3∨i=4∨i=5∨i=6∨i=7∨i=8∨i=9∨i=10∨i=11∨i=12∨i=13∨i=14∨i=15∨i=16∨i=17∨i=18∨i=19∨i=20∨i=21:=by omega
  any_goals refine Ky rfl (fun K hK =>?_)
  ·clear hlt hif;have q0:=(oz HF w (oz HJ).bel).bx.cell 0;have q1:=(oz HF w (oz HJ).bel).bx.cell 1;have q2:=(oz HF w (oz HJ).bel).bx.cell 2;have q3:=(oz HF w (oz HJ).bel).bx.cell 3;have q4:=(oz HF w (oz HJ).bel).bx.cell 4;have q5:=(oz HF w (oz HJ).bel).bx.cell 5;have q6:=(oz HF w (oz HJ).bel).bx.cell 6;have q7:=(oz HF w (oz HJ).bel).bx.cell 7;go_simp;exact hK _ _ ⟨za U 0 _,rfl,(oz HJ).put 0 _ h0 zl (jR zl) rfl jS (zJ rfl)⟩
  ·clear hlt hif;have d0:U 0=.agg #[.slice a0 T.sc.length c0,.slice a1 T.co.length c1,.slice a2 T.ma.length c2,.slice a3 T.pr.length c3,.slice a4 T.fo.length c4,.slice a5 T.lk.length c5,.slice a6 T.dr.length c6,.slice a7 T.al.length c7]:=(oz HJ).val 0 (zb hi 0 (by kernel_rfl));go_simp;refine (zi4 T (oz HO).ok (oz HO).z0 (fun x hx =>((oz HO).z4 x hx).1) (fun x hx =>((oz HO).z5 x hx).1) a0 a1 a2 a3 a4 a5 a6 a7 c0 c1 c2 c3 c4 c5 c6 c7 us w (oz HF w (oz HJ).bel).ti).mono ?_;rintro e w' ⟨vv,rfl,hown,hb⟩;exact hK _ _ ⟨za U 1 _,(by rw [zc d0];rfl),(oz HJ).put 1 _ h0 hb (jR hb) (hown.lower (oz HJ).sz) jS (zJ rfl)⟩
  ·clear hlt hif;go_simp;exact hK _ _ ⟨za U 2 _,rfl,(oz HJ).put 2 _ h0 zl (jR zl) rfl jS (zJ rfl)⟩
  ·clear hlt hif;have d2:U 2=.pointer (some ⟨W.heap.size,1,none⟩):=(oz HJ).val 2 (zb hi 2 (by kernel_rfl));have q0:=(oz HF w (oz HJ).bel).bx.cell 1;go_simp;exact hK _ _ ⟨za U 3 _,(by rw [zc d2];rfl),(oz HJ).put 3 _ h0 zl (jR zl) rfl jS (zJ rfl)⟩
  ·clear hlt hif;have d3:U 3=.slice a1 T.co.length c1:=(oz HJ).val 3 (zb hi 3 (by kernel_rfl));go_simp;refine (Yy a1 c1 T.co (oz HO).ok.n1 (oz HO).r1 w (YB (oz HF w (oz HJ).bel).ti.r1 zD)).mono ?_;rintro e w' ⟨B,rfl,hs,hb⟩;exact hK _ _ ⟨za U 4 _,(by rw [zc d3];rfl),(oz HJ).put 4 _ h0 hb (jR hb) ⟨B,rfl,hs⟩ jS (zJ rfl)⟩
  ·clear hlt hif;go_simp;exact hK _ _ ⟨za U 5 _,rfl,(oz HJ).put 5 _ h0 zl (jR zl) rfl jS (zJ rfl)⟩
  ·clear hlt hif;have d5:U 5=.pointer (some ⟨W.heap.size,6,none⟩):=(oz HJ).val 5 (zb hi 5 (by kernel_rfl));have q0:=(oz HF w (oz HJ).bel).bx.cell 6;go_simp;exact hK _ _ ⟨za U 6 _,(by rw [zc d5];rfl),(oz HJ).put 6 _ h0 zl (jR zl) rfl jS (zJ rfl)⟩
  ·clear hlt hif;have d6:U 6=.slice a6 T.dr.length c6:=(oz HJ).val 6 (zb hi 6 (by kernel_rfl));go_simp;refine (Yy a6 c6 T.dr (oz HO).ok.n6 (oz HO).r6 w (YB (oz HF w (oz HJ).bel).ti.r6 zD)).mono ?_;rintro e w' ⟨B,rfl,hs,hb⟩;exact hK _ _ ⟨za U 7 _,(by rw [zc d6];rfl),(oz HJ).put 7 _ h0 hb (jR hb) ⟨B,rfl,hs⟩ jS (zJ rfl)⟩
  ·clear hlt hif;go_simp;exact hK _ _ ⟨za U 8 _,rfl,(oz HJ).put 8 _ h0 zl (jR zl) rfl jS (zJ rfl)⟩
  ·clear hlt hif;have d8:U 8=.pointer (some ⟨W.heap.size,7,none⟩):=(oz HJ).val 8 (zb hi 8 (by kernel_rfl));have q0:=(oz HF w (oz HJ).bel).bx.cell 7;go_simp;exact hK _ _ ⟨za U 9 _,(by rw [zc d8];rfl),(oz HJ).put 9 _ h0 zl (jR zl) rfl jS (zJ rfl)⟩
  ·clear hlt hif;have d9:U 9=.slice a7 T.al.length c7:=(oz HJ).val 9 (zb hi 9 (by kernel_rfl));go_simp;refine (Yy a7 c7 T.al (oz HO).ok.n7 (oz HO).r7 w (YB (oz HF w (oz HJ).bel).ti.r7 zD)).mono ?_;rintro e w' ⟨B,rfl,hs,hb⟩;exact hK _ _ ⟨za U 10 _,(by rw [zc d9];rfl),(oz HJ).put 10 _ h0 hb (jR hb) ⟨B,rfl,hs⟩ jS (zJ rfl)⟩
  ·clear hlt hif;go_simp;exact hK _ _ ⟨za U 11 _,rfl,(oz HJ).put 11 _ h0 ((Below.refl _ w).alloc zD _) (jR ((Below.refl _ w).alloc zD _)) ⟨_,rfl,(oz HJ).sz,fun kt R =>KP w kt R⟩ jS (fun _ b hq =>Nat.le_of_eq (Zo hq))⟩
  ·clear hlt hif;go_simp;exact hK _ _ ⟨za U 12 _,rfl,(oz HJ).put 12 _ h0 ((Below.refl _ w).alloc zD _) (jR ((Below.refl _ w).alloc zD _)) ⟨_,rfl,(oz HJ).sz,fun kt R =>KP w kt R⟩ jS (fun _ b hq =>Nat.le_of_eq (Zo hq))⟩
  ·clear hlt hif;go_simp;exact hK _ _ ⟨za U 13 _,rfl,(oz HJ).put 13 _ h0 ((Below.refl _ w).alloc zD _) (jR ((Below.refl _ w).alloc zD _)) ⟨_,rfl,(oz HJ).sz,fun kt R =>KP w kt R⟩ jS (fun _ b hq =>Nat.le_of_eq (Zo hq))⟩
  ·clear hlt hif;go_simp;exact hK _ _ ⟨za U 14 _,rfl,(oz HJ).put 14 _ h0 zl (jR zl) rfl jS (zJ rfl)⟩
  ·clear hlt hif;have d14:U 14=.pointer (some ⟨W.heap.size,4,none⟩):=(oz HJ).val 14 (zb hi 14 (by kernel_rfl));have q0:=(oz HF w (oz HJ).bel).bx.cell 4;go_simp;exact hK _ _ ⟨za U 15 _,(by rw [zc d14];rfl),(oz HJ).put 15 _ h0 zl (jR zl) rfl jS (zJ rfl)⟩
  ·clear hlt hif;have d15:U 15=.slice a4 T.fo.length c4:=(oz HJ).val 15 (zb hi 15 (by kernel_rfl));go_simp;refine (zab T.fo (oz HO).ok.n4 (oz HO).z4 a4 c4 w (oz HF w (oz HJ).bel).ti.r4).mono ?_;rintro e w' ⟨M,n,rfl,hM,hn,hf,hb⟩;exact hK _ _ ⟨za U 16 _,(by rw [zc d15];rfl),(oz HJ).put 16 _ h0 hb (jR hb) ⟨M,n,rfl,Nat.le_trans (oz HJ).sz hM,hf⟩ jS (fun _ b hq =>by have:=Zo hq;omega)⟩
  ·clear hlt hif;go_simp;exact hK _ _ ⟨za U 17 _,rfl,(oz HJ).put 17 _ h0 zl (jR zl) rfl jS (zJ rfl)⟩
  ·clear hlt hif;have d17:U 17=.pointer (some ⟨W.heap.size,5,none⟩):=(oz HJ).val 17 (zb hi 17 (by kernel_rfl));have q0:=(oz HF w (oz HJ).bel).bx.cell 5;go_simp;exact hK _ _ ⟨za U 18 _,(by rw [zc d17];rfl),(oz HJ).put 18 _ h0 zl (jR zl) rfl jS (zJ rfl)⟩
  ·clear hlt hif;have d18:U 18=.slice a5 T.lk.length c5:=(oz HJ).val 18 (zb hi 18 (by kernel_rfl));go_simp;refine (zab T.lk (oz HO).ok.n5 (oz HO).z5 a5 c5 w (oz HF w (oz HJ).bel).ti.r5).mono ?_;rintro e w' ⟨M,n,rfl,hM,hn,hf,hb⟩;exact hK _ _ ⟨za U 19 _,(by rw [zc d18];rfl),(oz HJ).put 19 _ h0 hb (jR hb) ⟨M,n,rfl,Nat.le_trans (oz HJ).sz hM,hf⟩ jS (fun _ b hq =>by have:=Zo hq;omega)⟩
  ·clear hlt hif;have h1:=(oz HJ).val 1 (zb hi 1 (by kernel_rfl));obtain ⟨t0,us2,t1,t2,t3,t4,t5,t6,t7,d1,hl1,hL1⟩:=h1;have HT1:=kz (show TabAt w wz.drew.heap.size T (.agg #[t0,t1,t2,t3,t4,t5,t6,t7]) from ⟨t0,us2,t1,t2,t3,t4,t5,t6,t7,rfl,hl1,hL1⟩);clear hl1 hL1;obtain ⟨B4,d4,h4⟩:=(oz HJ).val 4 (zb hi 4 (by kernel_rfl));obtain ⟨B7,d7,h7⟩:=(oz HJ).val 7 (zb hi 7 (by kernel_rfl));obtain ⟨B10,d10,h10⟩:=(oz HJ).val 10 (zb hi 10 (by kernel_rfl));obtain ⟨M11,d11,l11,h11⟩:=(oz HJ).val 11 (zb hi 11 (by kernel_rfl));obtain ⟨M12,d12,l12,h12⟩:=(oz HJ).val 12 (zb hi 12 (by kernel_rfl));obtain ⟨M13,d13,l13,h13⟩:=(oz HJ).val 13 (zb hi 13 (by kernel_rfl));obtain ⟨M16,n16,d16,l16,h16⟩:=(oz HJ).val 16 (zb hi 16 (by kernel_rfl));obtain ⟨M19,n19,d19,l19,h19⟩:=(oz HJ).val 19 (zb hi 19 (by kernel_rfl));have n01:M11≠M12:=Qt ((oz HJ).ap 11 12 rfl rfl (by decide) (zb hi 11 (by kernel_rfl)) (zb hi 12 (by kernel_rfl))) d11 d12;have n02:M11≠M13:=Qt ((oz HJ).ap 11 13 rfl rfl (by decide) (zb hi 11 (by kernel_rfl)) (zb hi 13 (by kernel_rfl))) d11 d13;have n03:M11≠M16:=Qt ((oz HJ).ap 11 16 rfl rfl (by decide) (zb hi 11 (by kernel_rfl)) (zb hi 16 (by kernel_rfl))) d11 d16;have n04:M11≠M19:=Qt ((oz HJ).ap 11 19 rfl rfl (by decide) (zb hi 11 (by kernel_rfl)) (zb hi 19 (by kernel_rfl))) d11 d19;have n12:M12≠M13:=Qt ((oz HJ).ap 12 13 rfl rfl (by decide) (zb hi 12 (by kernel_rfl)) (zb hi 13 (by kernel_rfl))) d12 d13;have n13:M12≠M16:=Qt ((oz HJ).ap 12 16 rfl rfl (by decide) (zb hi 12 (by kernel_rfl)) (zb hi 16 (by kernel_rfl))) d12 d16;have n14:M12≠M19:=Qt ((oz HJ).ap 12 19 rfl rfl (by decide) (zb hi 12 (by kernel_rfl)) (zb hi 19 (by kernel_rfl))) d12 d19;have n23:M13≠M16:=Qt ((oz HJ).ap 13 16 rfl rfl (by decide) (zb hi 13 (by kernel_rfl)) (zb hi 16 (by kernel_rfl))) d13 d16;have n24:M13≠M19:=Qt ((oz HJ).ap 13 19 rfl rfl (by decide) (zb hi 13 (by kernel_rfl)) (zb hi 19 (by kernel_rfl))) d13 d19;have n34:M16≠M19:=Qt ((oz HJ).ap 16 19 rfl rfl (by decide) (zb hi 16 (by kernel_rfl)) (zb hi 19 (by kernel_rfl))) d16 d19;have HK:Hz (BkC w wz.drew.heap.size T t0 t1 t2 t3 t4 t5 t6 t7 B4 B7 B10 M11 M12 M13 M16 n16 M19 n19):=kz ⟨oz HT1,h4,h7,h10,h11,h12,h13,h16,h19,⟨l11,l12,l13,l16,l19⟩,n01,n02,n03,n04,n12,n13,n14,n23,n24,n34⟩;clear HT1 h4 h7 h10 h11 h12 h13 h16 h19 n01 n02 n03 n04 n12 n13 n14 n23 n24 n34;go_simp;exact hK _ _ ⟨za U 20 _,(by rw [zc d1,zc d4,zc d7,zc d10,zc d11,zc d12,zc d13,zc d16,zc d19];rfl),(oz HJ).put 20 _ h0 zl (jR zl) ⟨t0,t1,t2,t3,t4,t5,t6,t7,B4,B7,B10,M11,M12,M13,M16,n16,M19,n19,rfl,oz HK⟩ jS (zJ rfl)⟩
  ·clear hlt hif;obtain ⟨t0,t1,t2,t3,t4,t5,t6,t7,Bc,Bd,Ba,M5,M6,M7,MF,nF,ML,nL,d20,hK20⟩:=(oz HJ).val 20 (zb hi 20 (by kernel_rfl));have HK:=kz hK20;clear hK20;go_simp;exact hK _ _ ⟨za U 21 _,(by rw [zc d20];rfl),(oz HJ).put 21 _ h0 ((Below.refl _ w).alloc zD _) (jR ((Below.refl _ w).alloc zD _)) ⟨_,t0,t1,t2,t3,t4,t5,t6,t7,Bc,Bd,Ba,M5,M6,M7,MF,nF,ML,nL,rfl,(oz HJ).sz,Blk.new w _ _,(oz HK).below ((Below.refl _ w).alloc zD _)⟩ jS (zJ rfl)⟩
 ·rintro l a w ⟨V,rfl,hJ⟩ hall;obtain ⟨B,t0,t1,t2,t3,t4,t5,t6,t7,Bc,Bd,Ba,M5,M6,M7,MF,nF,ML,nL,d21,hloB,hBk,hK⟩:=hJ.val 21 (hall 21 (by decide) (by decide));have hBW:Below W.heap.size W w:=(oz HB0).trans (hJ.bel.mono (by have:=oz HS1;omega));have hF1:=oz HF w hJ.bel;have HP:=kz hF1;have e0:=hF1.bx.cell 0;have hWB:W.heap.size+1≤B:=by have:=oz HS1;omega
  have H0:Hz (ScSt w w B T t0 t1 t2 t3 t4 t5 t6 t7 Bc Bd Ba M5 M6 M7 MF ML 0 (.slice none 0 0) []):=kz ⟨hBk,rfl,World.ownsRow_nil _ _ _ _,fun j s b _ hb =>by simp at hb,KeptX.refl _ _⟩;have H1:=kz (yB hK (yB hBW (yB hWB hBk.lt)));have HB1:=kz hBk;have HW:Hz (W.heap.size+1≤wz.drew.heap.size):=kz (Nat.le_of_eq (oz HS1).symm);have HLo:Hz (wz.drew.heap.size≤w.heap.size):=kz hJ.bel.size;clear hJ hall hF1 hBk hK hBW hloB hWB;refine Ky rfl (fun K hK =>?_);go_simp;refine hK _ _ ?_;clear hK HF HB0 HS1
  go_step
  go_step
  refine wp_seq_k (fun K2 hK2 =>?_);have HK2:=kz hK2;clear hK2;go_wp2_with fail
  go_loopw [5,36] (fun _ s36 wr => ∃ (k:Nat) (sv:Value) (bs:List Nat),k≤T.sc.length∧s36=.int .i64 k∧Hz (ScSt w wr B T t0 t1 t2 t3 t4 t5 t6 t7 Bc Bd Ba M5 M6 M7 MF ML k sv bs)) (fun _ s36 _ =>T.sc.length - (intOf s36).toNat)
  case atStart =>exact ⟨0,_,_,Zn _,rfl,H0⟩
  case round =>
   obtain ⟨k,sv,bs,hk,rfl,HS⟩:=hrel;clear H0;by_cases hkn:k < T.sc.length
   ·obtain ⟨s,hs⟩:∃ s,T.sc[k]?=some s:=⟨_,qR hkn⟩;obtain ⟨u,hu⟩:∃ u,us[k]?=some u:=⟨_,qR (by have:=(oz HT).lu;omega)⟩;obtain ⟨b,d,rfl,hrc⟩:=(oz HT).rs k s u hs hu;have hlen:0 < (jE T.sc us).length:=by have:=(Ze.1 (Qp T.sc us (oz HT).lu k s hs)).1;omega
    obtain ⟨g,q,rfl,hg,hc⟩:=(oz HT).r0 hlen;have n0:=Qp T.sc us (oz HT).lu k s hs;have n1:(jE T.sc us)[k*2+1]?=some (.slice b s.2.length d):=by rw [show k*2+1=2*k+1 by omega,Zm _ _ (oz HT).lu];exact hu
    have hgw:g < w.heap.size:=zaY hg (oz H1).2.1.size;have hgB:¬ g=B:=by have:=(oz H1).2.2.1;omega
    have kc0:wr.cell? ⟨g,q+k*2,none⟩=some (.string s.1):=((oz HS).kp.cell (p:=⟨g,q+k*2,none⟩) hgw hgB).trans (((oz H1).2.1.cell (p:=⟨g,q+k*2,none⟩) hg).trans (hc _ _ n0));have kc1:wr.cell? ⟨g,q+k*2+1,none⟩=some (.slice b s.2.length d):=((oz HS).kp.cell (p:=⟨g,q+k*2+1,none⟩) hgw hgB).trans (((oz H1).2.1.cell (p:=⟨g,q+k*2+1,none⟩) hg).trans (hc _ _ n1));have hrw:RowC wr w.heap.size b (zM s.2):=fun h0 =>by
     obtain ⟨g2,o2,e2,hg2,hc2⟩:=hrc h0;have h3:g2 < w.heap.size:=zaY hg2 (oz H1).2.1.size;exact ⟨g2,o2,e2,h3,fun j v hv =>((oz HS).kp.cell (p:=⟨g2,o2+j,none⟩) h3 (show ¬ g2=B by have:=(oz H1).2.2.1;omega)).trans (((oz H1).2.1.cell (p:=⟨g2,o2+j,none⟩) hg2).trans (hc2 j v hv))⟩
    have hk1:(k:Int) < (T.sc.length:Int):=by omega
    have HKN:Hz (k+1≤T.sc.length):=kz hkn;have hkn0:k≤T.sc.length:=hk;have hk2:=Zp k
    have HX:=kz (yB hs (yB ((oz HO).rs s (YH hs)) (yB ((oz HO).ok.z0 s (YH hs)).2 hrw)));obtain ⟨s1,s2⟩:=s;dsimp only at kc0 kc1 HX;clear hs hu hrc hc n0 n1 hgw hgB hrw hlen hg;have HF:Hz (∀ w2,KeptX (fun x =>sv.ownBlock=some x) (wr.alloc (.cells #[.string s1,.slice b s2.length d] 96)).drew w2→Blk w2 wr.heap.size #[.string s1,.slice b s2.length d] 96∧Blk w2 B (zgH t0 t1 t2 t3 t4 t5 t6 t7 sv Bc Bd Ba M5 M6 M7 MF ML) 156∧RowC w2 w.heap.size b (zM s2)):=kz (fun w2 h2 =>by
     have hb:Below wr.heap.size wr (wr.alloc (.cells #[.string s1,.slice b s2.length d] 96)).drew:=((Below.refl _ wr).alloc zD _).trans ⟨rfl,rfl,rfl,zD,fun _ _ =>rfl⟩;have hlow:∀ x,sv.ownBlock=some x→w.heap.size≤x∧x < wr.heap.size:=fun x e =>⟨jO (oz HS).row x e,qF (oz HS).row x e⟩
     refine ⟨h2.blk (Blk.new wr _ _) (fun e =>by have:=hlow _ e;omega),h2.blk ((oz HS).bx.below hb (oz HS).bx.lt) (fun e =>by have:=hlow _ e;have:=(oz H1).2.2.2;omega),fun h0 =>?_⟩;obtain ⟨g2,o2,e2,hg2,hc2⟩:=(oz HX).2.2.2 h0;have h3:g2 < wr.heap.size:=zaY hg2 (oz HS).kp.size;exact ⟨g2,o2,e2,hg2,fun j v hv =>(h2.cell (p:=⟨g2,o2+j,none⟩) (zaY h3 hb.size) (show ¬ sv.ownBlock=some g2 from fun e =>by have:=hlow g2 e;omega)).trans ((hb.cell (p:=⟨g2,o2+j,none⟩) h3).trans (hc2 j v hv))⟩)
    have HZ:Hz (Below wr.heap.size wr (wr.alloc (.cells #[.string s1,.slice b s2.length d] 96)).drew∧w.heap.size≤(wr.alloc (.cells #[.string s1,.slice b s2.length d] 96)).drew.heap.size∧(∀ x,sv.ownBlock=some x→x < (wr.alloc (.cells #[.string s1,.slice b s2.length d] 96)).drew.heap.size)∧B < w.heap.size):=kz (by
     have hb:Below wr.heap.size wr (wr.alloc (.cells #[.string s1,.slice b s2.length d] 96)).drew:=((Below.refl _ wr).alloc zD _).trans ⟨rfl,rfl,rfl,zD,fun _ _ =>rfl⟩;exact ⟨hb,Nat.le_trans (oz HS).kp.size hb.size,fun x e =>zaY (qF (oz HS).row x e) hb.size,(oz H1).2.2.2⟩)
    go_wp2_with fail
    generalize (wr.alloc _)=wb at *;refine zhB hmx HS HF HX HZ (oz HO).ok.n0 hkn0 ?_;intro U wn sv2 bs2 HN;have hkb:k+1≤1000000:=by have:=(oz HO).ok.n0;have:=oz HKN;omega
    go_wp2_with fail
    exact ⟨⟨k+1,_,_,oz HKN,by go_num,HN⟩,by have:=oz HKN;simp [intOf];omega⟩
   ·have hk1:¬ (k:Int) < (T.sc.length:Int):=by omega
    obtain rfl:k=T.sc.length:=by omega
    have hPB:¬ W.heap.size=B:=by have:=(oz H1).2.2.1;omega
    have HE:Hz (∀ g j,g < W.heap.size→wr.cell? ⟨g,j,none⟩=W.cell? ⟨g,j,none⟩):=kz (fun g j hg =>((oz HS).kp.cell (p:=⟨g,j,none⟩) (zaY hg (oz H1).2.1.size) (show ¬ g=B by have:=(oz H1).2.2.1;omega)).trans ((oz H1).2.1.cell (p:=⟨g,j,none⟩) hg));have HPb:=kz ((oz HS).kp.blk (oz HP).bx hPB);clear hPB;go_wp2_with fail
    have l5:W.heap.size+1≤M5:=by have:=(oz H1).1.lows.1;have:=oz HW;omega
    have l6:W.heap.size+1≤M6:=by have:=(oz H1).1.lows.2.1;have:=oz HW;omega
    have l7:W.heap.size+1≤M7:=by have:=(oz H1).1.lows.2.2.1;have:=oz HW;omega
    have lB:=(oz H1).2.2.1;have m5:=XB ((oz H1).1.m5 21 (plainElem Tryz.prog 3)) (oz HB1);have m6:=XB ((oz H1).1.m6 21 Y5) (oz HB1);have m7:=XB ((oz H1).1.m7 157 (plainElem Tryz.prog 21)) (oz HB1);have hsz:W.heap.size≤wr.heap.size:=Nat.le_trans (oz H1).2.1.size (oz HS).kp.size;refine oz HK2 _ _ (zfv T (oz HO).ok.n2 (fun x hx =>⟨(oz HO).z2 x hx,(oz HO).ok.z2 x hx⟩) (lo:=W.heap.size) (M5:=M5) hmx ((oz HPb).cell 2) (kz ⟨ze5 (oz HT).r2 (oz HE),hsz,by omega,(oz HS).bx.lt,fun e =>m5 e.symm,(oz HS).bx.cell 12⟩) (kz ⟨⟨_,(oz HS).kp.mp ((oz H1).1.m5 _ _) m5,fun r _ =>.inl ⟨fun x hx =>by simp at hx,rfl⟩⟩,KeptX.refl _ _⟩) ?_);intro v7 v53 v54 v55 v56 v57 v58 v59 v60 v61 v62 v63 v64 v65 v66 v67 v68 wn HN;have hk2:=(oz HN).2;have hc2:∀ g j,g < wr.heap.size→g≠M5→wn.cell? ⟨g,j,none⟩=wr.cell? ⟨g,j,none⟩:=fun g j hg hne =>hk2.cell (p:=⟨g,j,none⟩) hg hne
    refine zfu T (oz HO).ok.n3 (oz HO).z3 (lo:=W.heap.size) (M6:=M6) (M7:=M7) hmx ((hc2 _ 3 (oz HPb).lt (by omega)).trans ((oz HPb).cell 3)) (kz ⟨ze5 (oz HT).r3 (fun g j hg =>(hc2 g j (by omega) (by omega)).trans (oz HE g j hg)),Nat.le_trans hsz hk2.size,by omega,by omega,(oz H1).1.n67,zaY (oz HS).bx.lt hk2.size,fun e =>m6 e.symm,fun e =>m7 e.symm,(hc2 B 13 (oz HS).bx.lt (fun e =>m5 e.symm)).trans ((oz HS).bx.cell 13),(hc2 B 14 (oz HS).bx.lt (fun e =>m5 e.symm)).trans ((oz HS).bx.cell 14)⟩) (kz ⟨⟨_,hk2.mp ((oz HS).kp.mp ((oz H1).1.m6 _ _) m6) (fun e =>(oz H1).1.n56 e.symm),fun r _ =>.inl ⟨fun x hx =>by simp at hx,rfl⟩⟩,⟨_,hk2.mp ((oz HS).kp.mp ((oz H1).1.m7 _ _) m7) (fun e =>(oz H1).1.n57 e.symm),fun a b k _ =>.inl ⟨fun x hx =>by simp at hx,rfl⟩⟩,KeptX.refl _ _⟩) ?_;intro af wq h2 hd HQ;refine XS (v := .pointer (some ⟨B,0,none⟩)) (by rw [← h2];exact results_tmp rfl _ _ _) hd ?_;refine ⟨B,rfl,by omega,zid (oz H1).1 (oz HB1) (oz HLo) (oz HS) (oz HN).1 hk2 (oz HQ).1 (oz HQ).2.1 (oz HQ).2.2, ?_⟩;exact YU (YU (YU (oz H1).2.1 (oz HS).kp (fun g e =>by subst e;omega) zD) hk2 (fun g e =>by subst e;omega) zD) (oz HQ).2.2 (fun g e =>by rcases e with e | e <;> (subst e;omega)) zD
theorem ziF {fn:Func} {u p:Tmp} {tmps:Array Value} {w:World} {R:Nat} {cs:Array Value} (h:fn.results=#[.tmp u,.cell p 89]) (hp:tmps.getD p undef=.pointer (some ⟨R,0,none⟩)) (hb:Blk w R cs 89) (hc:cs.size=3):(results fn tmps).run Tryz.prog w=.ok (.tuple #[tmps.getD u undef,.agg cs]) w:=by
 have hp':tmps[p]?.getD undef=.pointer (some ⟨R,0,none⟩):=by simpa using hp
 have hl:=run_loadVar_row (P:=Tryz.prog) w R _ 89 cs _ _ hb Tryz.underlying89 rfl (by rw [hc];kernel_rfl);simp only [results,h];simp [Result.andThen,hp',asAddr,hl]
theorem zho (T:TV) (us:List Value) (l:Ln) (hl:l ∈ Qv T us):l.E≠89:=by
 have key:l.E=96∨l.E=94∨l.E=98∨l.E=100∨l.E=102:=by
  unfold Qv at hl;simp only [List.mem_append,List.mem_cons,List.mem_map,List.not_mem_nil,or_false] at hl;rcases hl with ((((((((h | ⟨_,_,h⟩) | h) | h) | h) | h) | h) | h) | h)
  ·rw [h];exact .inl rfl
  ·rw [← h];exact .inr (.inl rfl)
  ·rw [h];exact .inr (.inl rfl)
  ·rw [h];exact .inr (.inr (.inl rfl))
  ·rw [h];exact .inr (.inr (.inr (.inl rfl)))
  ·rw [h];exact .inr (.inr (.inr (.inr rfl)))
  ·rw [h];exact .inr (.inr (.inr (.inr rfl)))
  ·rw [h];exact .inr (.inl rfl)
  ·rw [h];exact .inr (.inl rfl)
 generalize l.E=x at key;rcases key with rfl | rfl | rfl | rfl | rfl;all_goals decide
theorem Kg {lo R:Nat} {W w:World} (h:Below lo W w) (hl:lo≤R) (hs:lo≤w.heap.size) (x y z:Value):Below lo W (((w.drew.setCell ⟨R,0,none⟩ x).setCell ⟨R,1,none⟩ y).setCell ⟨R,2,none⟩ z):=zY (w:=w.drew) (h.trans (show Below lo w w.drew from ⟨rfl,rfl,rfl,zD,fun _ _ =>rfl⟩)) hl hs x y z
theorem zkx {w:World} {R:Nat} {cs:Array Value} (b:Blk w R cs 89) {g:Nat} {cur:Array Value} {t:TypeId} (hb:Blk w g cur t) (ht:t≠89):¬ g=R:=by
 rintro rfl;unfold Blk at b hb;rw [b] at hb;injection hb with e;injection e with _ e;exact ht e.symm
theorem zep {w w':World} {B R:Nat} {T:TV} {cs:Array Value} (h:BookAt w B T) (b:Blk w R cs 89) (k:KeptX (fun g =>g=R) w w') (hints:∀ (j:Nat) (y:Int),cs[j]?≠some (.int .i32 y)):BookAt w' B T:=by
 obtain ⟨lo,t0,t1,t2,t3,t4,t5,t6,t7,sv,bs,Bc,Bd,Ba,M5,n5,M6,n6,M7,n7,MF,nF,ML,nL,h⟩:=h;have row:∀ {lo E sz n:Nat} {v:Value} {xs:List Value},w.ownsRow lo E sz v n xs→E≠89→w'.ownsRow lo E sz v n xs:=fun {lo E sz n v xs} h hE =>by
  rcases h.2 with ⟨e,h0⟩ | ⟨g,cap,cur,e,hb,hg,r⟩
  ·exact ⟨h.1,.inl ⟨e,h0⟩⟩
  ·exact ⟨h.1,.inr ⟨g,cap,cur,e,hb,k.blk hg (zkx b hg hE),r⟩⟩
 have setv:∀ l C,SetV w l C→SetV w' l C:=fun l C ⟨zs,lo0,h1,h2⟩ =>by
  obtain ⟨va,vb,f1,f2,f3⟩:=h1.form;exact ⟨zs,lo0,⟨⟨va,vb,k.blk f1 (zkx b f1 (by decide)),row f2 (by decide),row f3 (by decide)⟩,h1.lo⟩,h2⟩
 have mpx:∀ {kt:TypeId} {Rd:Value→Option (DataW Unit × List MemPlace)} {M n:Nat} {G:Lit→Option (DataW Unit)},MpAt w kt Rd M n G→MpAt w' kt Rd M n G:=fun {kt Rd M n G} hm =>k.mp hm (XB hm b)
 have foa:∀ M n l,FoAt w M n l→FoAt w' M n l:=fun M n l hf =>by
  obtain ⟨G,h1,h2⟩:=hf.mp;refine ⟨G,mpx h1,fun r hr =>?_⟩;rcases h2 r hr with h3 | ⟨x,hx,e,g,c,h4,h5,h6⟩
  ·exact .inl h3
  ·refine .inr ⟨x,hx,e,g,c,h4,h5,zaY h6.1 k.size,fun j y hy =>(k.cell (p:=⟨g,j,none⟩) h6.1 (fun e =>?_)).trans (h6.2 j y hy)⟩;have e:g=R:=e;subst e;have:=h6.2 j y hy;rw [b.cell j] at this;exact hints _ _ this
 exact ⟨lo, t0, t1, t2, t3, t4, t5, t6, t7, sv, bs, Bc, Bd, Ba, M5, n5, M6, n6, M7, n7, MF, nF, ML, nL,
   { bx := k.blk h.bx (zkx b h.bx (by decide))
     tb:=by
       obtain ⟨v0,us,v1,v2,v3,v4,v5,v6,v7,e,hl,h1⟩:=h.tb;exact ⟨v0,us,v1,v2,v3,v4,v5,v6,v7,e,hl,h1.ll,fun i v l hv hl =>row (h1.own i v l hv hl) (zho T us l (YH hl)),h1.apart⟩
     len:=h.len
     row:=row h.row (by decide)
     sets:=fun j s b h1 h2 =>setv _ _ (h.sets j s b h1 h2)
     co:=setv _ _ h.co
     dr:=setv _ _ h.dr
     al:=setv _ _ h.al
     cl:=let ⟨G,g1,g2⟩:=h.cl.mp; ⟨G,mpx g1,g2⟩
     pa:=let ⟨G,g1,g2⟩:=h.pa.mp; ⟨G,mpx g1,g2⟩
     jo:=let ⟨G,g1,g2⟩:=h.jo.mp; ⟨G,mpx g1,g2⟩
     fo:=foa _ _ _ h.fo
     lk:=foa _ _ _ h.lk }⟩
theorem zcG (w:World) (R:Nat) (x y z:Value):KeptX (fun g =>g=R) w (((w.setCell ⟨R,0,none⟩ x).setCell ⟨R,1,none⟩ y).setCell ⟨R,2,none⟩ z):=((Yu w R 0 x).trans (Yu _ R 1 y)).trans (Yu _ R 2 z)
theorem zgw {w:World} {B R:Nat} {T:TV} (h:BookAt w B T) (b:Blk w R #[.int .i64 0,.int .i64 0,.int .i64 0] 89) (x y z:Value):BookAt (((w.setCell ⟨R,0,none⟩ x).setCell ⟨R,1,none⟩ y).setCell ⟨R,2,none⟩ z) B T :=
 zep h b (zcG w R x y z) (fun j y e =>by
  rcases j with _ | _ | _ | j
  ·injection e with e;cases e
  ·injection e with e;cases e
  ·injection e with e;cases e
  ·simp at e)
theorem QV (s:ByteArray):∀ f i,s.size≤i+f→s.size≤i+4*(zo s f i).length
 | 0,i,h =>by simp only [zo,List.length_nil];omega
 | f+1,i,h =>by
  by_cases hi:i < s.size
  ·rw [zW s f i hi,List.length_cons];have h1:=Jl s i;have h2:=ziN s i;have:=QV s f (i+wd s i) (by omega);omega
  ·rw [jB s _ i hi];simp;omega
theorem Qe {s:ByteArray} (h:toB s=true):s.size≤1048576:=by
 have h1:=(Jn h).2.2;have h2:=QV s s.size 0 (by omega);unfold zk zh at h1;rw [List.length_map] at h1;omega
theorem zd6 {s:ByteArray} (h:XO s=true):s.size≤1048576:=by
 unfold XO at h;rw [Bool.and_eq_true,decide_eq_true_eq] at h;omega
theorem zjF {T:TV} (hO:Jj T) (hR:zx T):zk0 T :=
 ⟨hO,fun x hx =>zd6 (hR.f0 x hx).1,fun x hx =>⟨Qe (hR.f4 x hx).2,Xc (hR.f4 x hx).1⟩,fun x hx =>⟨Qe (hR.f5 x hx).2,Xc (hR.f5 x hx).1⟩,fun x hx =>Xc (hR.f2 x hx).1,fun x hx =>⟨Xc (hR.f3 x hx).1,Xc (hR.f3 x hx).2.1,Xc (hR.f3 x hx).2.2⟩,hR.f1,hR.f6,hR.f7,fun x hx =>(hR.f0 x hx).2⟩
theorem zh7 (T:TV):XZ T=if (orW [jL T,yT T,yQ T]).1=0 then orW (wrL T) else orW [jL T,yT T,yQ T]:=yM [jL T,yT T,yQ T] (wrL T)
structure zle (W w:World) (T:TV) (p:Option Addr):Prop where
 bl:Below W.heap.size W w
 ok:(XZ T).1=0→zx T∧∃ B,p=some ⟨B,0,none⟩∧W.heap.size≤B∧BookAt w B T
 no:(XZ T).1≠0→p=none
structure NwS (W w:World) (T:TV) (a0 a1 a2 a3 a4 a5 a6 a7:Option Addr) (c0 c1 c2 c3 c4 c5 c6 c7:Nat) (us:List Value):Prop where
 bl:Below W.heap.size W w
 bx:Blk w W.heap.size #[.slice a0 T.sc.length c0,.slice a1 T.co.length c1,.slice a2 T.ma.length c2,.slice a3 T.pr.length c3,.slice a4 T.fo.length c4,.slice a5 T.lk.length c5,.slice a6 T.dr.length c6,.slice a7 T.al.length c7] 31
 rs:Blk w (W.heap.size+1) #[.int .i64 0,.int .i64 0,.int .i64 0] 89
 ti:TabIn w T a0 a1 a2 a3 a4 a5 a6 a7 us
theorem NwS.below {W w w':World} {T:TV} {a0 a1 a2 a3 a4 a5 a6 a7:Option Addr} {c0 c1 c2 c3 c4 c5 c6 c7:Nat} {us:List Value} (h:NwS W w T a0 a1 a2 a3 a4 a5 a6 a7 c0 c1 c2 c3 c4 c5 c6 c7 us) (hb:Below w.heap.size w w'):NwS W w' T a0 a1 a2 a3 a4 a5 a6 a7 c0 c1 c2 c3 c4 c5 c6 c7 us:=⟨h.bl.trans (hb.mono h.bl.size),h.bx.below hb h.bx.lt,h.rs.below hb h.rs.lt,h.ti.lower hb⟩
theorem zhK (T:TV) (hOk:Jj T) (hI:zdz T) (a0 a1 a2 a3 a4 a5 a6 a7:Option Addr) (c0 c1 c2 c3 c4 c5 c6 c7:Nat) (us:List Value) (W:World) (hT:TabIn W T a0 a1 a2 a3 a4 a5 a6 a7 us) :
  Calls Tryz.prog 38 #[.agg #[.slice a0 T.sc.length c0,.slice a1 T.co.length c1,.slice a2 T.ma.length c2,.slice a3 T.pr.length c3,.slice a4 T.fo.length c4,.slice a5 T.lk.length c5,.slice a6 T.dr.length c6,.slice a7 T.al.length c7]] W fun e w' => ∃ p,e=.returned (.tuple #[.pointer p,wrV (XZ T)])∧zle W w' T p:=by
 have hmx:=zdA
 have hB0:Below W.heap.size W ((W.alloc (.cells #[.slice a0 T.sc.length c0,.slice a1 T.co.length c1,.slice a2 T.ma.length c2,.slice a3 T.pr.length c3,.slice a4 T.fo.length c4,.slice a5 T.lk.length c5,.slice a6 T.dr.length c6,.slice a7 T.al.length c7] 31)).alloc (.cells #[.int .i64 0,.int .i64 0,.int .i64 0] 89)):=((Below.refl _ W).alloc zD _).alloc (by simp) _;have bR:Blk ((W.alloc (.cells #[.slice a0 T.sc.length c0,.slice a1 T.co.length c1,.slice a2 T.ma.length c2,.slice a3 T.pr.length c3,.slice a4 T.fo.length c4,.slice a5 T.lk.length c5,.slice a6 T.dr.length c6,.slice a7 T.al.length c7] 31)).alloc (.cells #[.int .i64 0,.int .i64 0,.int .i64 0] 89)) (W.heap.size+1) #[.int .i64 0,.int .i64 0,.int .i64 0] 89:=by
  have h:=Blk.new (W.alloc (.cells #[.slice a0 T.sc.length c0,.slice a1 T.co.length c1,.slice a2 T.ma.length c2,.slice a3 T.pr.length c3,.slice a4 T.fo.length c4,.slice a5 T.lk.length c5,.slice a6 T.dr.length c6,.slice a7 T.al.length c7] 31)) #[.int .i64 0,.int .i64 0,.int .i64 0] 89;rw [World.size_alloc] at h;exact h
 have hS:NwS W ((W.alloc (.cells #[.slice a0 T.sc.length c0,.slice a1 T.co.length c1,.slice a2 T.ma.length c2,.slice a3 T.pr.length c3,.slice a4 T.fo.length c4,.slice a5 T.lk.length c5,.slice a6 T.dr.length c6,.slice a7 T.al.length c7] 31)).alloc (.cells #[.int .i64 0,.int .i64 0,.int .i64 0] 89)) T a0 a1 a2 a3 a4 a5 a6 a7 c0 c1 c2 c3 c4 c5 c6 c7 us:=⟨hB0,(Blk.new W _ _).alloc _,bR,hT.lower hB0⟩;have HR:=kz (zaB T hOk hI a0 a1 a2 a3 a4 a5 a6 a7 c0 c1 c2 c3 c4 c5 c6 c7 us ((W.alloc (.cells #[.slice a0 T.sc.length c0,.slice a1 T.co.length c1,.slice a2 T.ma.length c2,.slice a3 T.pr.length c3,.slice a4 T.fo.length c4,.slice a5 T.lk.length c5,.slice a6 T.dr.length c6,.slice a7 T.al.length c7] 31)).alloc (.cells #[.int .i64 0,.int .i64 0,.int .i64 0] 89)) hS.ti);have HOk:=kz (yB hOk hI);have HCE:=kz (zh7 T);have HRO:=kz (za7 (T:=T));have HS:=kz hS;have q0:=hS.bx.cell 0;have q1:=hS.bx.cell 1;have q2:=hS.bx.cell 2;have q3:=hS.bx.cell 3;have q4:=hS.bx.cell 4;have q5:=hS.bx.cell 5;have q6:=hS.bx.cell 6;have q7:=hS.bx.cell 7;clear hB0 bR hS hT hOk hI;generalize orW [jL T,yT T,yQ T]=x at *;obtain ⟨x0,x1,x2⟩:=x;unfold wrV at HR;dsimp only at HR HCE HRO;by_cases hx:x0=0
 ·have hx1:=hx;obtain ⟨y,hy⟩:∃ y,orW (wrL T)=y:=⟨_,rfl⟩;have HC:Hz (XZ T=y):=kz (by rw [oz HCE,if_pos hx1,hy]);have hR:=oz HRO hx1;subst hx;have HBo:=kz (fun w (ti:TabIn w T a0 a1 a2 a3 a4 a5 a6 a7 us) =>zeq T (zjF (oz HOk).1 hR) a0 a1 a2 a3 a4 a5 a6 a7 c0 c1 c2 c3 c4 c5 c6 c7 us w ti);have HWr:=kz (fun B w (h:BookAt w B T) =>zcP hR ⟨fun x hx =>Qe (hR.f4 x hx).2,fun x hx =>Qe (hR.f5 x hx).2⟩ B w h);rw [hy] at HWr;have HRw:=kz hR;clear hx1 hR HCE HRO hy;obtain ⟨y0,y1,y2⟩:=y;unfold wrV at HWr;dsimp only at HWr;rw [oz HC];unfold wrV;dsimp only;go_enter Tryz.func38,Tryz.ntmps38;go_wp2_with fail
  refine (oz HR).mono ?_;rintro e w1 ⟨rfl,hb⟩;have HS1:=kz (((oz HS).below hb).below (al1 w1 (.cells #[.int .i64 0,.int .i64 x1,.int .i64 x2] 89)));clear hb HR HS q0 q1 q2 q3 q4 q5 q6 q7;have q0:=(oz HS1).bx.cell 0;have q1:=(oz HS1).bx.cell 1;have q2:=(oz HS1).bx.cell 2;have q3:=(oz HS1).bx.cell 3;have q4:=(oz HS1).bx.cell 4;have q5:=(oz HS1).bx.cell 5;have q6:=(oz HS1).bx.cell 6;have q7:=(oz HS1).bx.cell 7;go_wp2_with fail
  refine (oz HBo _ (oz HS1).ti).mono ?_;rintro e w2 ⟨B,rfl,hlB,hbk,hb⟩;have HS2:=kz (yB ((oz HS1).below hb) (yB hbk (Nat.le_trans (oz HS1).bl.size hlB)));clear hb hbk hlB HS1 HBo q0 q1 q2 q3 q4 q5 q6 q7;go_wp2_with fail
  refine (oz HWr B w2 (oz HS2).2.1).mono ?_;rintro e w3 ⟨rfl,hb⟩;have hn:=al1 w3 (.cells #[.int .i64 y0,.int .i64 y1,.int .i64 y2] 89);have HS3:=kz (yB (((oz HS2).1.below hb).below hn) (yB (((oz HS2).2.1.below hb).below hn) (oz HS2).2.2));have bY:=Blk.new w3 #[.int .i64 y0,.int .i64 y1,.int .i64 y2] 89;have s0:=bY.cell 0;have s1:=bY.cell 1;have s2:=bY.cell 2;have r0:=(oz HS3).1.rs.cell 0;have r1:=(oz HS3).1.rs.cell 1;have r2:=(oz HS3).1.rs.cell 2;have f0:=(oz HS3).1.rs.frozen 0;have f1:=(oz HS3).1.rs.frozen 1;have f2:=(oz HS3).1.rs.frozen 2;clear hb hn HWr HS2 bY;by_cases hy0:y0=0
  ·have HY:Hz ((0,y1,y2)=((0:Int),(0:Int),(0:Int))):=kz (by
    subst hy0;have:=zaa T;rw [oz HC] at this;exact this rfl)
   subst hy0;obtain ⟨_,hh⟩:=Prod.mk.inj (oz HY);obtain ⟨rfl,rfl⟩:=Prod.mk.inj hh;clear hh HY;go_wp2_with fail
   refine XS (v := .tuple #[.pointer (some ⟨B,0,none⟩),.agg #[.int .i64 0,.int .i64 0,.int .i64 0]]) (ziF Tryz.results38 rfl (jG (oz HS3).1.rs _ _ _) rfl) rfl ⟨_,rfl, ?_⟩;refine ⟨zY (oz HS3).1.bl (by omega) (oz HS3).1.bl.size _ _ _,fun _ =>⟨oz HRw,B,rfl,(oz HS3).2.2,zgw (oz HS3).2.1 (oz HS3).1.rs _ _ _⟩,fun q =>absurd (by rw [oz HC]) q⟩
  ·have n0:(y0 == 0)=false:=by simpa using hy0
   have n1:(y0 != 0)=true:=by simpa using hy0
   go_wp2_with fail
   go_region_with (fail)
   all_goals
    go_wp2_with fail
    refine XS (v := .tuple #[.pointer none,.agg #[.int .i64 y0,.int .i64 y1,.int .i64 y2]]) (ziF Tryz.results38 rfl (jG (show Blk _ _ _ _ from (oz HS3).1.rs) _ _ _) rfl) rfl ⟨_,rfl, ?_⟩;exact ⟨Kg (oz HS3).1.bl (by omega) (oz HS3).1.bl.size _ _ _,fun q =>absurd (by rw [oz HC] at q;exact q) hy0,fun _ =>rfl⟩
 ·have HC:Hz (XZ T=(x0,x1,x2)):=kz (by rw [oz HCE,if_neg hx]);have n0:(x0 == 0)=false:=by simpa using hx
  have n1:(x0 != 0)=true:=by simpa using hx
  rw [oz HC];unfold wrV;dsimp only;clear HCE HRO;go_enter Tryz.func38,Tryz.ntmps38;go_wp2_with fail
  refine (oz HR).mono ?_;rintro e w1 ⟨rfl,hb⟩;have HS1:=kz (((oz HS).below hb).below (al1 w1 (.cells #[.int .i64 x0,.int .i64 x1,.int .i64 x2] 89)));have bY:=Blk.new w1 #[.int .i64 x0,.int .i64 x1,.int .i64 x2] 89;have s0:=bY.cell 0;have s1:=bY.cell 1;have s2:=bY.cell 2;have r0:=(oz HS1).rs.cell 0;have r1:=(oz HS1).rs.cell 1;have r2:=(oz HS1).rs.cell 2;have f0:=(oz HS1).rs.frozen 0;have f1:=(oz HS1).rs.frozen 1;have f2:=(oz HS1).rs.frozen 2;clear hb HR HS q0 q1 q2 q3 q4 q5 q6 q7 bY;go_wp2_with fail
  go_region_with (fail)
  all_goals
   go_wp2_with fail
   refine XS (v := .tuple #[.pointer none,.agg #[.int .i64 x0,.int .i64 x1,.int .i64 x2]]) (ziF Tryz.results38 rfl (jG (show Blk _ _ _ _ from (oz HS1).rs) _ _ _) rfl) rfl ⟨_,rfl, ?_⟩;exact ⟨Kg (oz HS1).bl (by omega) (oz HS1).bl.size _ _ _,fun q =>absurd (by rw [oz HC] at q;exact q) hx,fun _ =>rfl⟩
def upB (T:TV):Bool := !Jz T && decide ((XZ T).1=0)
structure OfV (W w:World) (T:TV) (p:Option Addr):Prop where
 bl:Below W.heap.size W w
 ok:upB T=true→(XZ T).1=0∧zx T∧∃ B,p=some ⟨B,0,none⟩∧W.heap.size≤B∧BookAt w B T
theorem zio (T:TV) (hT:TabB T) (hI:zdz T) (v:Value) (W:World) (hv:TbV W T v) :
  Calls Tryz.prog 8 #[v] W fun e w' => ∃ p,e=.returned (.tuple #[.pointer p,.bool (upB T),.bool true])∧OfV W w' T p:=by
 have hmx:=zdA
 obtain ⟨A,rfl,hA⟩:=hv;have HX:=kz (TbX.start hA);have HL:=kz (zf4 T hT A.a0 A.a1 A.a2 A.a3 A.a4 A.a5 A.a6 A.a7 A.c0 A.c1 A.c2 A.c3 A.c4 A.c5 A.c6 A.c7 A.us _ (TbX.start hA).ti);have HC:=kz (fun w (hv:TbV w T (.agg #[.slice A.a0 T.sc.length A.c0,.slice A.a1 T.co.length A.c1,.slice A.a2 T.ma.length A.c2,.slice A.a3 T.pr.length A.c3,.slice A.a4 T.fo.length A.c4,.slice A.a5 T.lk.length A.c5,.slice A.a6 T.dr.length A.c6,.slice A.a7 T.al.length A.c7])) =>zcs T hT _ w hv);have HTT:=kz hT;have HN:=kz (fun (hO:Jj T) w (hv:Yb w T A) =>zhK T hO hI A.a0 A.a1 A.a2 A.a3 A.a4 A.a5 A.a6 A.a7 A.c0 A.c1 A.c2 A.c3 A.c4 A.c5 A.c6 A.c7 A.us w hv);have HOK:=kz (zaa T);unfold ze0 at HL;clear hA hT hI;cases hl:Jz T with
 | true =>
  have hu:upB T=false:=by unfold upB;rw [hl];rfl
  have HU:=kz hu;rw [hl] at HL;rw [hu];clear hl hu HC HN;go_enter Tryz.func8,Tryz.ntmps8;have z0:=(oz HX).z0;have z1:=(oz HX).z1;have z2:=(oz HX).z2;have z3:=(oz HX).z3;have z4:=(oz HX).z4;have z5:=(oz HX).z5;have z6:=(oz HX).z6;have z7:=(oz HX).z7;go_wp2_with fail
  generalize W.alloc _=w0 at *;refine (oz HL).mono ?_;rintro e w1 ⟨rfl,hb⟩;have HX1:=kz ((oz HX).below hb);clear hb HX HL;go_wp2_with fail
  go_ret3
  exact ⟨none,rfl,(oz HX1).bl,fun e =>absurd ((oz HU).symm.trans e) (by decide)⟩
 | false =>
  have HLF:=kz hl;rw [hl] at HL;clear hl;have HN2:=kz (fun w (hv:Yb w T A) =>oz HN ((oz HTT).ok (oz HLF)) w hv);obtain ⟨x0,x1,x2,hx⟩:∃ x0 x1 x2,XZ T=(x0,x1,x2):=⟨_,_,_,rfl⟩;have HXE:=kz hx;rw [hx] at HC HOK;unfold wrV at HC HN2;rw [hx] at HN2;dsimp only at HC HN2;clear HN hx HTT;by_cases hx0:x0=0
  ·have e:=oz HOK hx0;obtain ⟨rfl,hh⟩:=Prod.mk.inj e;obtain ⟨rfl,rfl⟩:=Prod.mk.inj hh;have hu:upB T=true:=by unfold upB;rw [oz HLF,oz HXE];rfl
   have HU:=kz hu;rw [hu];clear HOK e hh hx0 hu;go_enter Tryz.func8,Tryz.ntmps8;have z0:=(oz HX).z0;have z1:=(oz HX).z1;have z2:=(oz HX).z2;have z3:=(oz HX).z3;have z4:=(oz HX).z4;have z5:=(oz HX).z5;have z6:=(oz HX).z6;have z7:=(oz HX).z7;go_wp2_with fail
   generalize W.alloc _=w0 at *;refine (oz HL).mono ?_;rintro e w1 ⟨rfl,hb⟩;have HX1:=kz ((oz HX).below hb);clear hb HX HL;clear z0 z1 z2 z3 z4 z5 z6 z7;have z0:=(oz HX1).z0;have z1:=(oz HX1).z1;have z2:=(oz HX1).z2;have z3:=(oz HX1).z3;have z4:=(oz HX1).z4;have z5:=(oz HX1).z5;have z6:=(oz HX1).z6;have z7:=(oz HX1).z7;go_wp2_with fail
   refine (oz HN2 _ (oz HX1).ti).mono ?_;rintro e w2 ⟨p,rfl,hnv⟩;have HX2:=kz ((oz HX1).below hnv.bl);have HLW:=kz (oz HX1).bl;have HNV:=kz hnv;clear HX1 HN2 hnv;clear z0 z1 z2 z3 z4 z5 z6 z7;have HX3:=kz ((oz HX2).below (Zk w2 (.cells #[.int .i64 0,.int .i64 0,.int .i64 0] 89)));have b6:=Blk.new w2 #[.int .i64 0,.int .i64 0,.int .i64 0] 89;have z0:=(oz HX3).z0;have z1:=(oz HX3).z1;have z2:=(oz HX3).z2;have z3:=(oz HX3).z3;have z4:=(oz HX3).z4;have z5:=(oz HX3).z5;have z6:=(oz HX3).z6;have z7:=(oz HX3).z7;go_wp2_with fail
   refine (oz HC _ (oz HX3).tv).mono ?_;rintro e w3 ⟨rfl,hb⟩;have HX4:=kz (((oz HX3).below hb).below (Zk w3 (.cells #[.int .i64 0,.int .i64 0,.int .i64 0] 89)));have HB6:=kz ((b6.below hb b6.lt).alloc (.cells #[.int .i64 0,.int .i64 0,.int .i64 0] 89));have HHB:=kz hb;have b7:=Blk.new w3 #[.int .i64 0,.int .i64 0,.int .i64 0] 89;clear hb HC b6;clear z0 z1 z2 z3 z4 z5 z6 z7;have q0:=(oz HB6).cell 0;have q1:=(oz HB6).cell 1;have q2:=(oz HB6).cell 2;have s0:=b7.cell 0;have s1:=b7.cell 1;have s2:=b7.cell 2;clear b7;obtain ⟨hO,B,rfl,hBl,hbk⟩:=(oz HNV).ok (by rw [oz HXE]);have HBK:Hz (BookAt (w3.alloc (.cells #[.int .i64 0,.int .i64 0,.int .i64 0] 89)) B T):=kz (((hbk.below (Zk w2 (.cells #[.int .i64 0,.int .i64 0,.int .i64 0] 89))).below (oz HHB)).below (Zk w3 _));have HOB:=kz (yB hO (Nat.le_trans (oz HX2).bl.size (show w2.heap.size≤w2.heap.size from zD)));have HBL:Hz (W.heap.size≤B):=kz (by have:=(oz HLW).size;omega);clear hO hBl hbk HNV HX2 HX3 HHB;go_wp2_with fail
   go_ret3
   exact ⟨_,rfl,(oz HX4).bl,fun _ =>⟨by rw [oz HXE],(oz HOB).1,B,rfl,oz HBL,oz HBK⟩⟩
  ·have hu:upB T=false:=by unfold upB;rw [oz HXE,Zq hx0];simp
   have HU:=kz hu;have n1:(x0 != 0)=true:=by simpa using hx0
   have n0:(x0 == 0)=false:=by simpa using hx0
   have e0:(x0 == x0)=true:=by simp
   have e1:(x1 == x1)=true:=by simp
   have e2:(x2 == x2)=true:=by simp
   rw [hu];clear HOK hu;go_enter Tryz.func8,Tryz.ntmps8;have z0:=(oz HX).z0;have z1:=(oz HX).z1;have z2:=(oz HX).z2;have z3:=(oz HX).z3;have z4:=(oz HX).z4;have z5:=(oz HX).z5;have z6:=(oz HX).z6;have z7:=(oz HX).z7;go_wp2_with fail
   generalize W.alloc _=w0 at *;refine (oz HL).mono ?_;rintro e w1 ⟨rfl,hb⟩;have HX1:=kz ((oz HX).below hb);clear hb HX HL;clear z0 z1 z2 z3 z4 z5 z6 z7;have z0:=(oz HX1).z0;have z1:=(oz HX1).z1;have z2:=(oz HX1).z2;have z3:=(oz HX1).z3;have z4:=(oz HX1).z4;have z5:=(oz HX1).z5;have z6:=(oz HX1).z6;have z7:=(oz HX1).z7;go_wp2_with fail
   refine (oz HN2 _ (oz HX1).ti).mono ?_;rintro e w2 ⟨p,rfl,hnv⟩;have HX2:=kz ((oz HX1).below hnv.bl);have HNV:=kz hnv;clear HX1 HN2 hnv;clear z0 z1 z2 z3 z4 z5 z6 z7;have HX3:=kz ((oz HX2).below (Zk w2 (.cells #[.int .i64 x0,.int .i64 x1,.int .i64 x2] 89)));have b6:=Blk.new w2 #[.int .i64 x0,.int .i64 x1,.int .i64 x2] 89;have z0:=(oz HX3).z0;have z1:=(oz HX3).z1;have z2:=(oz HX3).z2;have z3:=(oz HX3).z3;have z4:=(oz HX3).z4;have z5:=(oz HX3).z5;have z6:=(oz HX3).z6;have z7:=(oz HX3).z7;go_wp2_with fail
   refine (oz HC _ (oz HX3).tv).mono ?_;rintro e w3 ⟨rfl,hb⟩;have HX4:=kz (((oz HX3).below hb).below (Zk w3 (.cells #[.int .i64 x0,.int .i64 x1,.int .i64 x2] 89)));have HB6:=kz ((b6.below hb b6.lt).alloc (.cells #[.int .i64 x0,.int .i64 x1,.int .i64 x2] 89));have HHB:=kz hb;have b7:=Blk.new w3 #[.int .i64 x0,.int .i64 x1,.int .i64 x2] 89;clear hb HC b6;clear z0 z1 z2 z3 z4 z5 z6 z7;have q0:=(oz HB6).cell 0;have q1:=(oz HB6).cell 1;have q2:=(oz HB6).cell 2;have s0:=b7.cell 0;have s1:=b7.cell 1;have s2:=b7.cell 2;clear b7;obtain rfl:=(oz HNV).no (by rw [oz HXE];exact hx0);clear HNV HX2 HX3 HHB HB6 hx0;have y0:=zP q0;have y1:=zP q1;have y2:=zP q2;have t0:=zP s0;have t1:=zP s1;have t2:=zP s2;have HBX:=kz (oz HX4).bl;go_wp2_with fail
   generalize w3.alloc _=w4 at *;clear q0 q1 q2 s0 s1 s2;refine JG (by kernel_rfl) (by kernel_rfl) ?_;repeat (go_big_quiet_step (fail))
   first | refine wpQuiet_nil ?_ | skip
   rintro w' ⟨p,rfl⟩;have HBq:=kz (Xu w4 p.d p.os);generalize Go.Sort.grow (redrawn w4 p.d) p.os=w5 at *;clear y0 y1 y2 t0 t1 t2;go_wp2_with fail
   go_ret3
   exact ⟨none,rfl,(oz HBX).trans ((oz HBq).mono (oz HBX).size),fun e =>absurd ((oz HU).symm.trans e) (by decide)⟩
def HT:TV:={ sc := [((ByteArray.mk #[108,97,116,105,110]),[(65,90),(97,122),(232,234),(7865,7871)]),((ByteArray.mk #[103,114,101,101,107]),[(945,969)]),((ByteArray.mk #[99,121,114,105,108,108,105,99]),[(1072,1103)])],co := [(45,57)],ma := [(769,230),(770,230),(803,220)],pr := [(233,101,769),(234,101,770),(7865,101,803),(7871,234,769)],fo := [(65,(ByteArray.mk #[97])),(69,(ByteArray.mk #[101]))],lk := [(1072,(ByteArray.mk #[97])),(49,(ByteArray.mk #[108])),(109,(ByteArray.mk #[114,110]))],dr := [(8205,8205)],al := [(45,45),(48,57),(97,122),(232,234),(769,770),(803,803),(945,969),(1072,1103),(7865,7871)],r1 := [],r2 := [],r3 := [],r4 := [],r5 := [],r6 := [],r7 := [],r8 := [] }
theorem zh0:XZ HT=(0,0,0):=by decide +kernel
theorem zhZ:Jz HT=false:=by decide +kernel
theorem zjZ:upB HT=true:=by unfold upB;rw [zhZ,zh0];rfl
theorem zk6:TabB HT:=⟨by decide,by decide,by decide,by decide,by decide,by decide,by decide,by decide,by decide +kernel,by decide +kernel,by decide +kernel,by decide +kernel⟩
theorem zk5:zdz HT:=by
 refine ⟨?_, ?_, ?_, ?_, ?_, ?_, ?_, ?_⟩
 all_goals
  unfold R32;decide +kernel
theorem XD {w:World} {g:Nat} {cs:Array Value} {t:TypeId} (b:Blk w g cs t) (xs:List Value) (e:cs=xs.toArray):RowC w w.heap.size (some ⟨g,0,none⟩) xs:=fun _ =>⟨g,0,rfl,b.lt,fun j v hv =>by
 rw [Nat.zero_add,b.cell j,e,List.getElem?_toArray];exact hv⟩
def zj7 (W:World) (l:List (Array Value × TypeId)):World:=l.foldl (fun w x =>w.alloc (.cells x.1 x.2)) W
theorem zbv {g:Nat} {cs:Array Value} {t:TypeId}:∀ (l:List (Array Value × TypeId)) (W:World),Blk W g cs t→Blk (zj7 W l) g cs t
 | [],W,h =>h
 | x::l,W,h =>zbv l (W.alloc (.cells x.1 x.2)) (h.alloc _)
theorem zdy {cs:Array Value} {t:TypeId}:∀ (l:List (Array Value × TypeId)) (W:World) (k:Nat),l[k]?=some (cs,t)→Blk (zj7 W l) (W.heap.size+k) cs t
 | [],W,k,h =>by simp at h
 | x::l,W,0,h =>by
  cases h
  exact zbv l (W.alloc (.cells cs t)) (Blk.new W cs t)
 | x::l,W,k+1,h =>by
  have:=zdy l (W.alloc (.cells x.1 x.2)) k h;rw [World.size_alloc,Nat.add_right_comm] at this;exact this
theorem zai {W0:World}:∀ (l:List (Array Value × TypeId)) (W:World),Below W0.heap.size W0 W→Below W0.heap.size W0 (zj7 W l)
 | [],W,h =>h
 | x::l,W,h =>zai l (W.alloc (.cells x.1 x.2)) (h.alloc h.size _)
def hsL (W:World):List (Array Value × TypeId) := [(#[.slice (some ⟨W.heap.size+1+1+1+1,0,none⟩) 3 3,.slice (some ⟨W.heap.size+1+1+1+1+1,0,none⟩) 1 1,.slice (some ⟨W.heap.size+1+1+1+1+1+1,0,none⟩) 3 3,.slice (some ⟨W.heap.size+1+1+1+1+1+1+1,0,none⟩) 4 4,.slice (some ⟨W.heap.size+1+1+1+1+1+1+1+1,0,none⟩) 2 2,.slice (some ⟨W.heap.size+1+1+1+1+1+1+1+1+1,0,none⟩) 3 3,.slice (some ⟨W.heap.size+1+1+1+1+1+1+1+1+1+1,0,none⟩) 1 1,.slice (some ⟨W.heap.size+1+1+1+1+1+1+1+1+1+1+1,0,none⟩) 9 9],31),(#[.int .i32 65,.int .i32 90,.int .i32 97,.int .i32 122,.int .i32 232,.int .i32 234,.int .i32 7865,.int .i32 7871],94),(#[.int .i32 945,.int .i32 969],94),(#[.int .i32 1072,.int .i32 1103],94),(#[.string (ByteArray.mk #[108,97,116,105,110]),.slice (some ⟨W.heap.size+1,0,none⟩) 4 4,.string (ByteArray.mk #[103,114,101,101,107]),.slice (some ⟨W.heap.size+1+1,0,none⟩) 1 1,.string (ByteArray.mk #[99,121,114,105,108,108,105,99]),.slice (some ⟨W.heap.size+1+1+1,0,none⟩) 1 1],96),(#[.int .i32 45,.int .i32 57],94),(#[.int .i32 769,.int .i64 230,.int .i32 770,.int .i64 230,.int .i32 803,.int .i64 220],98),(#[.int .i32 233,.int .i32 101,.int .i32 769,.int .i32 234,.int .i32 101,.int .i32 770,.int .i32 7865,.int .i32 101,.int .i32 803,.int .i32 7871,.int .i32 234,.int .i32 769],100),(#[.int .i32 65,.string (ByteArray.mk #[97]),.int .i32 69,.string (ByteArray.mk #[101])],102),(#[.int .i32 1072,.string (ByteArray.mk #[97]),.int .i32 49,.string (ByteArray.mk #[108]),.int .i32 109,.string (ByteArray.mk #[114,110])],102),(#[.int .i32 8205,.int .i32 8205],94),(#[.int .i32 45,.int .i32 45,.int .i32 48,.int .i32 57,.int .i32 97,.int .i32 122,.int .i32 232,.int .i32 234,.int .i32 769,.int .i32 770,.int .i32 803,.int .i32 803,.int .i32 945,.int .i32 969,.int .i32 1072,.int .i32 1103,.int .i32 7865,.int .i32 7871],94)]
def hsW (W:World):World:=zj7 W (hsL W)
theorem hsB (W:World) (k:Nat) {cs:Array Value} {t:TypeId} (h:(hsL W)[k]?=some (cs,t)):Blk (hsW W) (W.heap.size+k) cs t:=zdy _ W k h
theorem hs0 (W:World):Blk (hsW W) W.heap.size #[.slice (some ⟨W.heap.size+1+1+1+1,0,none⟩) 3 3,.slice (some ⟨W.heap.size+1+1+1+1+1,0,none⟩) 1 1,.slice (some ⟨W.heap.size+1+1+1+1+1+1,0,none⟩) 3 3,.slice (some ⟨W.heap.size+1+1+1+1+1+1+1,0,none⟩) 4 4,.slice (some ⟨W.heap.size+1+1+1+1+1+1+1+1,0,none⟩) 2 2,.slice (some ⟨W.heap.size+1+1+1+1+1+1+1+1+1,0,none⟩) 3 3,.slice (some ⟨W.heap.size+1+1+1+1+1+1+1+1+1+1,0,none⟩) 1 1,.slice (some ⟨W.heap.size+1+1+1+1+1+1+1+1+1+1+1,0,none⟩) 9 9] 31:=hsB W 0 rfl
theorem zh1 (W:World):Below W.heap.size W (hsW W):=zai _ W zl
theorem zkn (W:World):TbV (hsW W) HT (.agg #[.slice (some ⟨W.heap.size+1+1+1+1,0,none⟩) 3 3,.slice (some ⟨W.heap.size+1+1+1+1+1,0,none⟩) 1 1,.slice (some ⟨W.heap.size+1+1+1+1+1+1,0,none⟩) 3 3,.slice (some ⟨W.heap.size+1+1+1+1+1+1+1,0,none⟩) 4 4,.slice (some ⟨W.heap.size+1+1+1+1+1+1+1+1,0,none⟩) 2 2,.slice (some ⟨W.heap.size+1+1+1+1+1+1+1+1+1,0,none⟩) 3 3,.slice (some ⟨W.heap.size+1+1+1+1+1+1+1+1+1+1,0,none⟩) 1 1,.slice (some ⟨W.heap.size+1+1+1+1+1+1+1+1+1+1+1,0,none⟩) 9 9]):=by
 refine ⟨⟨some ⟨W.heap.size+1+1+1+1,0,none⟩,some ⟨W.heap.size+1+1+1+1+1,0,none⟩,some ⟨W.heap.size+1+1+1+1+1+1,0,none⟩,some ⟨W.heap.size+1+1+1+1+1+1+1,0,none⟩,some ⟨W.heap.size+1+1+1+1+1+1+1+1,0,none⟩,some ⟨W.heap.size+1+1+1+1+1+1+1+1+1,0,none⟩,some ⟨W.heap.size+1+1+1+1+1+1+1+1+1+1,0,none⟩,some ⟨W.heap.size+1+1+1+1+1+1+1+1+1+1+1,0,none⟩,3,1,3,4,2,3,1,9,[.slice (some ⟨W.heap.size+1,0,none⟩) 4 4,.slice (some ⟨W.heap.size+1+1,0,none⟩) 1 1,.slice (some ⟨W.heap.size+1+1+1,0,none⟩) 1 1]⟩,rfl, ?_⟩;refine ⟨rfl,XD (hsB W 4 rfl) _ rfl,XD (hsB W 5 rfl) _ rfl,XD (hsB W 6 rfl) _ rfl,XD (hsB W 7 rfl) _ rfl,XD (hsB W 8 rfl) _ rfl,XD (hsB W 9 rfl) _ rfl,XD (hsB W 10 rfl) _ rfl,XD (hsB W 11 rfl) _ rfl, ?_⟩;intro j x u hx hu;rcases j with _ | _ | _ | j
 ·injection hx with hx;injection hu with hu;subst hx hu;exact ⟨_,_,rfl,XD (hsB W 1 rfl) _ rfl⟩
 ·injection hx with hx;injection hu with hu;subst hx hu;exact ⟨_,_,rfl,XD (hsB W 2 rfl) _ rfl⟩
 ·injection hx with hx;injection hu with hu;subst hx hu;exact ⟨_,_,rfl,XD (hsB W 3 rfl) _ rfl⟩
 ·have hx:=(Ze.1 hx).1;have:HT.sc.length=3:=rfl;omega
theorem zga (W:World):Calls Tryz.prog 9 #[] W fun e w' => ∃ v,e=.returned v∧TbV w' HT v∧Below W.heap.size W w':=by
 have HB:=kz (hs0 W);go_enter Tryz.func9,Tryz.ntmps9;go_wp2_with fail
 exact XS (v := .agg #[.slice (some ⟨W.heap.size+1+1+1+1,0,none⟩) 3 3,.slice (some ⟨W.heap.size+1+1+1+1+1,0,none⟩) 1 1,.slice (some ⟨W.heap.size+1+1+1+1+1+1,0,none⟩) 3 3,.slice (some ⟨W.heap.size+1+1+1+1+1+1+1,0,none⟩) 4 4,.slice (some ⟨W.heap.size+1+1+1+1+1+1+1+1,0,none⟩) 2 2,.slice (some ⟨W.heap.size+1+1+1+1+1+1+1+1+1,0,none⟩) 3 3,.slice (some ⟨W.heap.size+1+1+1+1+1+1+1+1+1+1,0,none⟩) 1 1,.slice (some ⟨W.heap.size+1+1+1+1+1+1+1+1+1+1+1,0,none⟩) 9 9]) (results_cell_row Tryz.results9 _ _ _ _ _ _ _ rfl (oz HB) Tryz.underlying31 rfl (by kernel_rfl)) rfl ⟨_,rfl,zkn W,zh1 W⟩
theorem zcv (v:Value) (W:World) (hv:TbV W HT v):Calls Tryz.prog 8 #[v] W fun e w' => ∃ B,e=.returned (.tuple #[.pointer (some ⟨B,0,none⟩),.bool true,.bool true])∧zx HT∧W.heap.size≤B∧BookAt w' B HT∧Below W.heap.size W w':=by
 refine (zio HT zk6 zk5 v W hv).mono ?_;rintro e w' ⟨p,rfl,h⟩;rw [zjZ];obtain ⟨_,hO,B,rfl,hB,hb⟩:=h.ok zjZ;exact ⟨B,rfl,hO,hB,hb,h.bl⟩
end Go.Proofs.YthchopdfmchpkaaGreat
