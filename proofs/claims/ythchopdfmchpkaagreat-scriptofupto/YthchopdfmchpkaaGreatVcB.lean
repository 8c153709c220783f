/- ScriptOf, walked. -/
import Derived.Test.YthchopdfmchpkaaGreatM28
namespace Go.Proofs.YthchopdfmchpkaaGreat
open Go.RowKit Go.Shelf Go.Maps
set_option linter.unusedVariables false
set_option maxRecDepth 100000
set_option maxHeartbeats 8000000
theorem zej (o:Option (Nat × Nat)):∃ (x y:Int) (b:Bool),JC o=.tuple #[.agg #[.int .i64 x,.int .i64 y],.bool b]:=by
 cases o with
 | none =>exact ⟨0,0,false,rfl⟩
 | some x =>exact ⟨x.1,x.2,true,rfl⟩
theorem zhW (i j:Nat) (w:World) (hi:i≤1001):Calls Tryz.prog 28 #[.int .i64 i,.int .i64 j] w fun e w' =>e=.returned (evZ (-1000 - (i:Int)))∧Below w.heap.size w w':=by
 have h1:(i:Int)≤1001:=by omega
 go_enter Tryz.func28,Tryz.ntmps28;go_wp2;go_ret;refine ⟨?_,zl⟩;first | rfl | (congr 2;simp [IntKind.wrap];omega) | simp
theorem zdd {W:World} {base base' e size n:Nat} {v:Value} {xs:List Value} (h:W.ownsRow base e size v n xs) (hb:base'≤base):W.ownsRow base' e size v n xs :=
 ⟨h.1,h.2.imp id fun ⟨g,cap,cur,h1,h2,h3⟩ =>⟨g,cap,cur,h1,Nat.le_trans hb h2,h3⟩⟩
theorem jN {lo:Nat} {W w:World} (h:Below lo W.drew w):Below lo W w:=((Below.refl lo W).drew).trans h
def soD (T:TV) (A:TbA) (S:ByteArray) (n px py lv14:Int) (pb cn:Bool) (B KK c2:Nat) (a2:Option Addr):Nat→Value→Prop
 | 0,v =>v=.agg #[.int .i64 px,.int .i64 py]
 | 1,v =>v=.agg #[.int .i64 px,.int .i64 py]
 | 2,v =>v=.bool true
 | 3,v =>v=.bool true
 | 4,v =>v=.bool pb
 | 5,v =>v=.bool pb
 | 6,v =>v=.bool true
 | 7,v =>v=.bool true
 | 8,v =>v=.bool true
 | 9,v =>v=.pointer (some ⟨B,0,none⟩)
 | 10,v =>v=.string S
 | 11,v =>v=.int .i64 n
 | 12,v =>v=.bool cn
 | 13,v =>v=.agg #[.slice A.a0 T.sc.length A.c0,.slice A.a1 T.co.length A.c1,.slice A.a2 T.ma.length A.c2,.slice A.a3 T.pr.length A.c3,.slice A.a4 T.fo.length A.c4,.slice A.a5 T.lk.length A.c5,.slice A.a6 T.dr.length A.c6,.slice A.a7 T.al.length A.c7]
 | 14,v =>v=.slice a2 (zh S).length c2
 | 15,v =>v=.int .i64 n
 | 16,v =>v=.bool cn
 | 17,v =>v=.bool true
 | 18,v =>v=.bool true
 | 19,v =>v=.bool true
 | 20,v =>v=.pointer (some ⟨B,0,none⟩)
 | 21,v =>v=.string S
 | 22,v =>v=.int .i64 lv14
 | 23,v =>v=.agg #[.slice A.a0 T.sc.length A.c0,.slice A.a1 T.co.length A.c1,.slice A.a2 T.ma.length A.c2,.slice A.a3 T.pr.length A.c3,.slice A.a4 T.fo.length A.c4,.slice A.a5 T.lk.length A.c5,.slice A.a6 T.dr.length A.c6,.slice A.a7 T.al.length A.c7]
 | 24,v =>v=.string S
 | 25,v =>v=.int .i64 lv14
 | 26,v =>v=.bool true
 | 27,v =>v=.bool true
 | 28,v =>v=.bool true
 | 29,v =>v=.pointer (some ⟨KK,0,none⟩)
 | 30,v =>v=.bool true
 | 31,v =>v=.bool true
 | 32,v =>v=.bool true
 | 33,v =>v=.bool true
 | 34,v =>v=.bool true
 | _,v =>True
theorem zi7 (T:TV) (hT:TabB T) (hI:zdz T) (A:TbA) (s:ByteArray) (hs:s.size≤1000000000) (n:Int) (W:World) (hA:Yb W T A) :
  Calls Tryz.prog 4 #[.agg #[.slice A.a0 T.sc.length A.c0,.slice A.a1 T.co.length A.c1,.slice A.a2 T.ma.length A.c2,.slice A.a3 T.pr.length A.c3,.slice A.a4 T.fo.length A.c4,.slice A.a5 T.lk.length A.c5,.slice A.a6 T.dr.length A.c6,.slice A.a7 T.al.length A.c7],.string s,.int .i64 n] W fun e w' =>e=.returned (.bool true)∧Below W.heap.size W w':=by
 have hmx:=zdA
 have HX:=kz (TbX.start hA);have HC:=kz (zio T hT hI _ _ (TbX.start hA).tv);have HTT:=kz hT;clear hA hT hI;go_enter Tryz.func4,Tryz.ntmps4;have z0:=(oz HX).z0;have z1:=(oz HX).z1;have z2:=(oz HX).z2;have z3:=(oz HX).z3;have z4:=(oz HX).z4;have z5:=(oz HX).z5;have z6:=(oz HX).z6;have z7:=(oz HX).z7;have HW0:=kz (oz HX).bl;go_wp2_with fail
 generalize W.alloc _=w0 at *;refine (oz HC).mono ?_;rintro e w1 ⟨p,rfl,hV⟩;have HB1:=kz ((oz HW0).trans (hV.bl.mono (oz HW0).size));have HX1:=kz ((oz HX).below hV.bl);clear HC z0 z1 z2 z3 z4 z5 z6 z7 HX HW0;cases hu:upB T with
 | false =>
  clear hV hu;go_wp2_with fail
  refine (zff w1).mono ?_;rintro e w2 ⟨rfl,hb⟩;have HB2:=kz ((oz HB1).trans (hb.mono (oz HB1).size));clear hb HB1;go_wp2;go_ret;exact ⟨rfl,oz HB2⟩
 | true =>
  obtain ⟨hck,hO,B,rfl,hB,hbk⟩:=hV.ok hu;have hBK:=kz (fun w (h:Below w1.heap.size w1 w) =>hbk.below h);have HH:=kz hO;have G1:=kz (Below.refl w1.heap.size w1);have hL:=hO.l0;clear hV hu hbk hck;go_wp2_with fail
  refine (zkG s hs 600 (by decide) w1).mono ?_;rintro e w2 ⟨rfl,rfl⟩;have hss:=zgh s 600;generalize ziy s 600=S at *;have hst:=zX S;have hsl:(ZT T S).length≤64:=by have:=Z1 T (spL S);unfold ZT;omega
  go_wp2_with fail
  refine (Zr S (by omega) w2).mono ?_;rintro e w3 ⟨v3,rfl,ho3,hb⟩;obtain ⟨a2,c2,rfl⟩:=zL ho3;have HL3:=kz (yY ho3);have G3:=kz ((oz G1).trans hb);have HX3:=kz ((oz HX1).below hb);clear hb G1 HX1 ho3;have hs3:w2.heap.size≤w3.heap.size:=(oz G3).size;have hK0:=kz (Blk.new w3 #[.slice none 0 0,.slice none 0 0,.int .i64 0,.bool false] 57);go_wp2_with fail
  go_loopw [12] (fun i wr => ∃ (k:Nat) (its:List ItZ) (lv wv:Value) (h:Int),i=.int .i64 k∧k≤2∧its.length≤k∧Hz (BookZ wr w3.heap.size w3.heap.size its lv wv h)∧Hz (Below w3.heap.size w3 wr)) (fun i _ =>2 - (intOf i).toNat)
  case atStart =>
   exact ⟨0,[],.slice none 0 0,.slice none 0 0,0,rfl,by omega,by simp,kz ⟨⟨oz hK0,SlAt.nil _ _ _,SlAt.nil _ _ _,.inl rfl,zD⟩,by simp,List.Pairwise.nil⟩,kz (zl.alloc zD _)⟩
  case round =>
   obtain ⟨k,its,lv,wv,h,rfl,hk,hil,HBK,HBB⟩:=hrel;have hlo:w3.heap.size < wr.heap.size:=(oz HBK).bk.blk.lt;have Gr:=kz ((oz G3).trans ((oz HBB).mono hs3));by_cases hk2:k < 2
   ·have hk3:(k:Int) < 2:=by omega
    go_wp2_with fail
    refine (zan T (oz HH) S (by omega) B wr (oz hBK wr (oz Gr))).mono ?_;rintro e w4 ⟨v4,rfl,ho4,hb⟩;obtain ⟨a4,c4,rfl⟩:=zL ho4;rw [← zdi] at ho4;have HBK4:=kz ((oz HBK).below (by omega) hb);have HBB4:=kz ((oz HBB).trans (hb.mono (oz HBB).size));have HDIS:Hz (∀ it ∈ its,it.v.ownBlock=none∨it.v.ownBlock≠Value.ownBlock (.slice a4 (ZT T S).length c4)):=kz (fun it hi =>by
     cases hv:it.v.ownBlock with
     | none =>exact .inl rfl
     | some x =>
      refine .inr fun e =>?_
      have h1:=(zeO ((oz HBK).own it hi).1 x hv).2;have h2:=(zeO ho4 x e.symm).1;omega)
    have HO4:=kz (zdd ho4 (show w3.heap.size≤wr.heap.size by omega));have hz4:wr.heap.size≤w4.heap.size:=hb.size;have HX4:=kz (((oz HX3).below (oz HBB)).below hb);have HL4:=kz (((oz HL3).below (oz HBB) (oz HBB).size).below hb hb.size);clear hb Gr HBK HBB ho4;have z0:=(oz HX4).z0;have z1:=(oz HX4).z1;have z2:=(oz HX4).z2;have z3:=(oz HX4).z3;have z4:=(oz HX4).z4;have z5:=(oz HX4).z5;have z6:=(oz HX4).z6;have z7:=(oz HX4).z7;go_wp2_with fail
    refine (QY T (oz HTT) (by omega) A S (zh S) (by omega) a2 c2 w4 (oz HX4).ti (oz HL4)).mono ?_;rintro e w5 ⟨v5,rfl,ho5,hb⟩;rw [ze8,show (jU T ((zh S).map (spX S))).1=ZT T S from rfl, ← zdi] at ho5;obtain ⟨a5,c5,rfl⟩:=zL ho5;have HO5:=kz (zdd ho5 (show w3.heap.size≤w4.heap.size by omega));have HO45:=kz (zu (oz HO4) hb);have HBK5:=kz ((oz HBK4).below (by omega) hb);have HBB5:=kz ((oz HBB4).trans (hb.mono (oz HBB4).size));have hz5:w4.heap.size≤w5.heap.size:=hb.size;clear hb HX4 HL4 HBK4 HBB4 HO4 ho5;clear z0 z1 z2 z3 z4 z5 z6 z7;have HSV:=kz (Jb w3.heap.size _ _ ((ZT T S).map (fun n:Nat =>(n:Int))) _ (by rw [List.length_map];exact oz HO45) (by rw [List.length_map];exact oz HO5));go_wp2_with fail
    refine (oz HSV).mono ?_;rintro e w6 ⟨rfl,hb⟩;have HO6:=kz (zu (oz HO45) hb);have HBK6:=kz ((oz HBK5).below (by omega) hb);have HBB6:=kz ((oz HBB5).trans (hb.mono (oz HBB5).size));have hz6:w5.heap.size≤w6.heap.size:=hb.size;have HKP:=kz (zf6 w6 w3.heap.size w3.heap.size its lv wv h (.slice a4 (ZT T S).length c4) ((ZT T S).map (fun n:Nat =>(n:Int))) (oz HDIS) (by rw [List.length_map];exact oz HO6) (by rw [List.length_map];omega) (by rw [List.length_map];unfold maxLen;omega) (oz HBK6) (by omega) (by omega));clear hb HSV HO45 HO5 HBK5 HBB5;go_wp2_with fail
    refine (oz HKP).mono ?_;rintro e w7 ⟨⟨r,rfl⟩,⟨t,lv',wv',h',htn,_,htl,hbk⟩,hkk⟩;have HBK7:=kz hbk;have HBB7:=kz ((oz HBB6).trans hkk.2.1);clear hbk hkk HKP HBK6 HBB6 HO6 HDIS;go_wp2;exact ⟨⟨k+1,t,lv',wv',h',by go_num,by omega,by omega,HBK7,HBB7⟩,by simp [intOf];omega⟩
   ·have hk3:¬ (k:Int) < 2:=by omega
    have HXr:=kz ((oz HX3).below (oz HBB));have HLr:=kz ((oz HL3).below (oz HBB) (oz HBB).size);obtain ⟨px,py,pb,hf⟩:=zej (Yx T S);have HS1:=kz (JJ T (oz HH) S (by omega) B wr (oz hBK wr (oz Gr)));have HS2:=kz (fun w =>zcu T (oz HTT) (by omega) A S (by omega) w);rw [hf] at HS1 HS2;clear hf;go_wp2_with fail
    refine (oz HS1).mono ?_;rintro e w4 ⟨rfl,hb⟩;have HX4:=kz (((oz HXr).below hb).below (Zk w4 (.cells #[.int .i64 px,.int .i64 py] 47)));have HL4:=kz (((oz HLr).below hb hb.size).below (Zk w4 (.cells #[.int .i64 px,.int .i64 py] 47)) (Zk w4 (.cells #[.int .i64 px,.int .i64 py] 47)).size);have G4:=kz (((oz Gr).trans (hb.mono (oz Gr).size)).alloc (by have:=(oz Gr).size;have:=hb.size;omega) (.cells #[.int .i64 px,.int .i64 py] 47));have HBK4:=kz (((oz HBK).below (by omega) hb).below (by have:=hb.size;omega) (Zk w4 (.cells #[.int .i64 px,.int .i64 py] 47)));have HBB4:=kz (((oz HBB).trans (hb.mono (oz HBB).size)).trans ((Zk w4 (.cells #[.int .i64 px,.int .i64 py] 47)).mono (by have:=hb.size;omega)));have P4:=kz (Blk.new w4 #[.int .i64 px,.int .i64 py] 47);obtain ⟨p14,hp14⟩:∃ p14,p14=w4.heap.size:=⟨_,rfl⟩;rw [← hp14] at P4;clear hb Gr HXr HLr HBK HBB HS1;have z0:=(oz HX4).z0;have z1:=(oz HX4).z1;have z2:=(oz HX4).z2;have z3:=(oz HX4).z3;have z4:=(oz HX4).z4;have z5:=(oz HX4).z5;have z6:=(oz HX4).z6;have z7:=(oz HX4).z7;go_wp2_with fail
    rw [← hp14];generalize hX:w4.alloc _=X4 at *;clear hX hp14;refine (oz HS2 X4 (oz HX4).ti).mono ?_;rintro e w5 ⟨rfl,hb⟩;have HX5:=kz (((oz HX4).below hb).below (Zk w5 (.cells #[.int .i64 px,.int .i64 py] 47)));have HL5:=kz (((oz HL4).below hb hb.size).below (Zk w5 (.cells #[.int .i64 px,.int .i64 py] 47)) (Zk w5 (.cells #[.int .i64 px,.int .i64 py] 47)).size);have G5:=kz (((oz G4).trans (hb.mono (oz G4).size)).alloc (by have:=(oz G4).size;have:=hb.size;omega) (.cells #[.int .i64 px,.int .i64 py] 47));have HBK5:=kz (((oz HBK4).below (by have:=(oz HBB4).size;omega) hb).below (by have:=(oz HBB4).size;have:=hb.size;omega) (Zk w5 (.cells #[.int .i64 px,.int .i64 py] 47)));have HBB5:=kz (((oz HBB4).trans (hb.mono (oz HBB4).size)).trans ((Zk w5 (.cells #[.int .i64 px,.int .i64 py] 47)).mono (by have:=(oz HBB4).size;have:=hb.size;omega)));have P5:=kz (((oz P4).below hb (oz P4).lt).alloc (.cells #[.int .i64 px,.int .i64 py] 47));have Q5:=kz (Blk.new w5 #[.int .i64 px,.int .i64 py] 47);obtain ⟨p16,hp16⟩:∃ p16,p16=w5.heap.size:=⟨_,rfl⟩;rw [← hp16] at Q5;clear hb G4 HX4 HL4 HBK4 HBB4 P4 HS2;clear z0 z1 z2 z3 z4 z5 z6 z7;go_wp2_with fail
    rw [← hp16];generalize hX:w5.alloc _=X5 at *;clear hX hp16;have HF14:=kz (fun w (h:Below X5.heap.size X5 w) =>(oz P5).below h (oz P5).lt);have HF16:=kz (fun w (h:Below X5.heap.size X5 w) =>(oz Q5).below h (oz Q5).lt);have HTB:=kz (fun w (h:Below X5.heap.size X5 w) =>(oz HX5).below h);obtain ⟨cn,hcn⟩:∃ cn,cn=inI (ZT T S) n:=⟨_,rfl⟩;obtain ⟨lv14,hlv14⟩:∃ lv14,lv14=zgF T S:=⟨_,rfl⟩;have HC24:=kz (fun w (h:Below X5.heap.size X5 w) =>zbs T (oz HH) S (by omega) n B w (oz hBK w ((oz G5).trans (h.mono (oz G5).size))));have HC25:=kz (fun w (h:Below X5.heap.size X5 w) =>zd2 T (oz HTT) A S (by omega) a2 c2 n w ((oz HX5).below h).ti ((oz HL5).below h h.size));have HC13:=kz (fun w (h:Below X5.heap.size X5 w) =>zcz T (oz HH) S (by omega) B w (oz hBK w ((oz G5).trans (h.mono (oz G5).size))));have HC26:=kz (fun w (h:Below X5.heap.size X5 w) =>zbA T (oz HTT) (by omega) A S (by omega) w ((oz HX5).below h).ti);rw [← hcn] at HC24 HC25;rw [← hlv14] at HC13 HC26;have hlo5:w3.heap.size≤X5.heap.size:=(oz HBB5).size;have HCAP:=kz (fun w (h:Below X5.heap.size X5 w) =>zeF (fun i _ => -1000 - (i:Int)) (fun i j w hi _ =>zhW i j w hi) w w3.heap.size w3.heap.size its lv wv _ ((oz HBK5).below hlo5 h) (by have:=h.size;omega) (by omega));have HCKN:=kz (fun w =>zff w);have HLO:=kz hlo5;have HEND:=kz (fun w (h:Below w3.heap.size X5 w) =>(oz HB1).trans (((oz G3).trans (((oz HBB5).trans h).mono hs3)).mono (oz HB1).size));obtain ⟨KK,hKK⟩:∃ KK,KK=w3.heap.size:=⟨_,rfl⟩;rw [← hKK] at HCAP HLO HEND ⊢;clear hKK hcn hlv14 P5 Q5 HX5 HL5 G5 HBK5 HBB5 hlo hlo5 hs3 HTT hBK HH hK0 G3 HL3 HX3;refine Kz hmx 35 (by decide) (by kernel_rfl) (by kernel_rfl) (fun l a w => ∃ U:Nat→Value,a = { tmps:=#[.agg #[.slice A.a0 T.sc.length A.c0,.slice A.a1 T.co.length A.c1,.slice A.a2 T.ma.length A.c2,.slice A.a3 T.pr.length A.c3,.slice A.a4 T.fo.length A.c4,.slice A.a5 T.lk.length A.c5,.slice A.a6 T.dr.length A.c6,.slice A.a7 T.al.length A.c7],.string S,.int .i64 n,.pointer (some ⟨W.heap.size,0,none⟩),undef,undef,u6,.pointer (some ⟨B,0,none⟩),.bool true,.bool true,.slice a2 (zh S).length c2,.pointer (some ⟨KK,0,none⟩),.int .i64 k,u13,.pointer (some ⟨p14,0,none⟩),.bool pb,.pointer (some ⟨p16,0,none⟩),.bool pb,.tuple #[.pointer (some ⟨B,0,none⟩),.bool true,.bool true],.agg #[.slice A.a0 T.sc.length A.c0,.slice A.a1 T.co.length A.c1,.slice A.a2 T.ma.length A.c2,.slice A.a3 T.pr.length A.c3,.slice A.a4 T.fo.length A.c4,.slice A.a5 T.lk.length A.c5,.slice A.a6 T.dr.length A.c6,.slice A.a7 T.al.length A.c7],.tuple #[.pointer (some ⟨B,0,none⟩),.bool true,.bool true],.pointer (some ⟨B,0,none⟩),.bool true,.bool true,.bool true,.bool false,undef,undef,undef,undef,.string s,.string S,.string S,.slice a2 (zh S).length c2,.agg #[.slice none 0 0,.slice none 0 0,.int .i64 0,.bool false],.pointer (some ⟨KK,0,none⟩),.int .i64 k,.bool false,u38,u39,u40,u41,u42,u43,u44,u45,u46,u47,u48,u49,u50,u51,.tuple #[.agg #[.int .i64 px,.int .i64 py],.bool pb],.pointer (some ⟨B,0,none⟩),.string S,.tuple #[.agg #[.int .i64 px,.int .i64 py],.bool pb],.agg #[.int .i64 px,.int .i64 py],.bool pb,.tuple #[.agg #[.int .i64 px,.int .i64 py],.bool pb],.agg #[.slice A.a0 T.sc.length A.c0,.slice A.a1 T.co.length A.c1,.slice A.a2 T.ma.length A.c2,.slice A.a3 T.pr.length A.c3,.slice A.a4 T.fo.length A.c4,.slice A.a5 T.lk.length A.c5,.slice A.a6 T.dr.length A.c6,.slice A.a7 T.al.length A.c7],.string S,.tuple #[.agg #[.int .i64 px,.int .i64 py],.bool pb],.agg #[.int .i64 px,.int .i64 py],.bool pb,U 0,U 1,U 2,U 3,U 4,U 5,U 6,U 7,U 8,U 9,U 10,U 11,U 12,U 13,U 14,U 15,U 16,U 17,U 18,U 19,U 20,U 21,U 22,U 23,U 24,U 25,U 26,U 27,U 28,U 29,U 30,U 31,U 32,U 33,U 34],defers := [] }∧RgP X5.drew KK 30 (soD T A S n px py lv14 pb cn B KK c2 a2) l U w) ⟨fun _ =>undef,rfl,RgP.start _ _⟩ ?_ ?_
    ·rintro l a w i ⟨U,rfl,hJ⟩ hl hc hi hif;have h0:=(mem_ready.1 hi).1;have hlt0:=Xo hl h0;have hsz:l.size=36:=hl;have HJ:=kz hJ;have HCL:=kz hc;clear hJ hl hc;have hlt:i < 36:=hlt0;clear hlt0;obtain rfl | rfl | rfl | rfl | rfl | rfl | rfl | rfl | rfl | rfl | rfl | rfl | rfl | rfl | rfl | rfl | rfl | rfl | rfl | rfl | rfl | rfl | rfl | rfl | rfl | rfl | rfl | rfl | rfl | rfl | rfl | rfl | rfl | rfl | rfl:i=0∨i=1∨i=2∨i=3∨i=4∨i=5∨i=6∨i=7∨i=8∨i=9∨i=10∨i=11∨i=12∨i=13∨i=14∨i=15∨i=16∨i=17∨i=18∨i=19∨i=20∨i=21∨i=22∨i=23∨i=24∨i=25∨i=26∨i=27∨i=28∨i=29∨i=30∨i=31∨i=32∨i=33∨i=34:=by omega
     any_goals refine Ky rfl (fun K hK =>?_)
     ·have hb0:=(oz HJ).bel (XA (oz HCL) hi 30 _ rfl (by kernel_rfl) (by decide) (by omega))
      replace hb0:Below X5.heap.size X5 w:=jN hb0
      clear hlt hif HCL;have q:=(oz HF14 w hb0);have q0:=q.cell 0;have q1:=q.cell 1;clear q;clear hb0;go_simp;exact hK _ _ ⟨za U 0 _,rfl,(oz HJ).put (oz HLO) 0 (by decide) _ zl rfl⟩
     ·have hb0:=(oz HJ).bel (XA (oz HCL) hi 30 _ rfl (by kernel_rfl) (by decide) (by omega))
      replace hb0:Below X5.heap.size X5 w:=jN hb0
      clear hlt hif HCL;have q:=(oz HF16 w hb0);have q0:=q.cell 0;have q1:=q.cell 1;clear q;clear hb0;go_simp;exact hK _ _ ⟨za U 1 _,rfl,(oz HJ).put (oz HLO) 1 (by decide) _ zl rfl⟩
     ·clear hlt hif HCL;have d0:U 0=.agg #[.int .i64 px,.int .i64 py]:=(oz HJ).val 0 (zb hi 0 (by kernel_rfl));have d1:U 1=.agg #[.int .i64 px,.int .i64 py]:=(oz HJ).val 1 (zb hi 1 (by kernel_rfl));have e1:(px == px)=true:=by simp
      have e2:(py == py)=true:=by simp
      go_simp;exact hK _ _ ⟨za U 2 _,(by rw [zc d0,zc d1];rfl),(oz HJ).put (oz HLO) 2 (by decide) _ zl rfl⟩
     ·clear hlt hif HCL;have d2:U 2=.bool true:=(oz HJ).val 2 (zb hi 2 (by kernel_rfl));go_simp;exact hK _ _ ⟨za U 3 _,(by rw [zc d2];rfl),(oz HJ).put (oz HLO) 3 (by decide) _ zl rfl⟩
     ·clear hlt hif HCL;have d3:U 3=.bool true:=(oz HJ).val 3 (zb hi 3 (by kernel_rfl));go_simp;exact hK _ _ ⟨za U 4 _,(by rw [zc d3];rfl),(oz HJ).put (oz HLO) 4 (by decide) _ zl rfl⟩
     ·clear hlt hif HCL;have d3:U 3=.bool true:=(oz HJ).val 3 (zb hi 3 (by kernel_rfl));go_simp;exact hK _ _ ⟨za U 5 _,(by rw [zc d3];rfl),(oz HJ).put (oz HLO) 5 (by decide) _ zl rfl⟩
     ·clear hlt hif HCL;have d3:U 3=.bool true:=(oz HJ).val 3 (zb hi 3 (by kernel_rfl));have d4:U 4=.bool pb:=(oz HJ).val 4 (zb hi 4 (by kernel_rfl));have d5:U 5=.bool pb:=(oz HJ).val 5 (zb hi 5 (by kernel_rfl));have e1:(pb == pb)=true:=by simp
      go_simp;exact hK _ _ ⟨za U 6 _,(by rw [zc d3,zc d4,zc d5];rfl),(oz HJ).put (oz HLO) 6 (by decide) _ zl rfl⟩
     ·clear hlt hif HCL;have d3:U 3=.bool true:=(oz HJ).val 3 (zb hi 3 (by kernel_rfl));have d6:U 6=.bool true:=(oz HJ).val 6 (zb hi 6 (by kernel_rfl));go_simp;exact hK _ _ ⟨za U 7 _,(by rw [zc d3,zc d6];rfl),(oz HJ).put (oz HLO) 7 (by decide) _ zl rfl⟩
     ·clear hlt hif HCL;have d7:U 7=.bool true:=(oz HJ).val 7 (zb hi 7 (by kernel_rfl));go_simp;exact hK _ _ ⟨za U 8 _,(by rw [zc d7];rfl),(oz HJ).put (oz HLO) 8 (by decide) _ zl rfl⟩
     ·clear hlt hif HCL;have d8:U 8=.bool true:=(oz HJ).val 8 (zb hi 8 (by kernel_rfl));go_simp;exact hK _ _ ⟨za U 9 _,(by rw [zc d8];rfl),(oz HJ).put (oz HLO) 9 (by decide) _ zl rfl⟩
     ·clear hlt hif HCL;have d8:U 8=.bool true:=(oz HJ).val 8 (zb hi 8 (by kernel_rfl));go_simp;exact hK _ _ ⟨za U 10 _,(by rw [zc d8];rfl),(oz HJ).put (oz HLO) 10 (by decide) _ zl rfl⟩
     ·clear hlt hif HCL;have d8:U 8=.bool true:=(oz HJ).val 8 (zb hi 8 (by kernel_rfl));go_simp;exact hK _ _ ⟨za U 11 _,(by rw [zc d8];rfl),(oz HJ).put (oz HLO) 11 (by decide) _ zl rfl⟩
     ·have hb0:=(oz HJ).bel (XA (oz HCL) hi 30 _ rfl (by kernel_rfl) (by decide) (by omega))
      replace hb0:Below X5.heap.size X5 w:=jN hb0
      clear hlt hif HCL;have d8:U 8=.bool true:=(oz HJ).val 8 (zb hi 8 (by kernel_rfl));have d9:U 9=.pointer (some ⟨B,0,none⟩):=(oz HJ).val 9 (zb hi 9 (by kernel_rfl));have d10:U 10=.string S:=(oz HJ).val 10 (zb hi 10 (by kernel_rfl));have d11:U 11=.int .i64 n:=(oz HJ).val 11 (zb hi 11 (by kernel_rfl));have hcc:=oz HC24 w hb0;have HCC:=kz hcc;clear hcc;clear hb0;go_simp;refine (oz HCC).mono ?_;rintro e w' ⟨rfl,hb⟩;exact hK _ _ ⟨za U 12 _,(by rw [zc d8,zc d9,zc d10,zc d11];rfl),(oz HJ).put (oz HLO) 12 (by decide) _ hb rfl⟩
     ·have hb0:=(oz HJ).bel (XA (oz HCL) hi 30 _ rfl (by kernel_rfl) (by decide) (by omega))
      replace hb0:Below X5.heap.size X5 w:=jN hb0
      clear hlt hif HCL;have d8:U 8=.bool true:=(oz HJ).val 8 (zb hi 8 (by kernel_rfl));have z0:=(oz HTB w hb0).z0;have z1:=(oz HTB w hb0).z1;have z2:=(oz HTB w hb0).z2;have z3:=(oz HTB w hb0).z3;have z4:=(oz HTB w hb0).z4;have z5:=(oz HTB w hb0).z5;have z6:=(oz HTB w hb0).z6;have z7:=(oz HTB w hb0).z7;clear hb0;go_simp;exact hK _ _ ⟨za U 13 _,(by rw [zc d8];rfl),(oz HJ).put (oz HLO) 13 (by decide) _ zl rfl⟩
     ·clear hlt hif HCL;have d8:U 8=.bool true:=(oz HJ).val 8 (zb hi 8 (by kernel_rfl));go_simp;exact hK _ _ ⟨za U 14 _,(by rw [zc d8];rfl),(oz HJ).put (oz HLO) 14 (by decide) _ zl rfl⟩
     ·clear hlt hif HCL;have d8:U 8=.bool true:=(oz HJ).val 8 (zb hi 8 (by kernel_rfl));go_simp;exact hK _ _ ⟨za U 15 _,(by rw [zc d8];rfl),(oz HJ).put (oz HLO) 15 (by decide) _ zl rfl⟩
     ·have hb0:=(oz HJ).bel (XA (oz HCL) hi 30 _ rfl (by kernel_rfl) (by decide) (by omega))
      replace hb0:Below X5.heap.size X5 w:=jN hb0
      clear hlt hif HCL;have d8:U 8=.bool true:=(oz HJ).val 8 (zb hi 8 (by kernel_rfl));have d13:U 13=.agg #[.slice A.a0 T.sc.length A.c0,.slice A.a1 T.co.length A.c1,.slice A.a2 T.ma.length A.c2,.slice A.a3 T.pr.length A.c3,.slice A.a4 T.fo.length A.c4,.slice A.a5 T.lk.length A.c5,.slice A.a6 T.dr.length A.c6,.slice A.a7 T.al.length A.c7]:=(oz HJ).val 13 (zb hi 13 (by kernel_rfl));have d14:U 14=.slice a2 (zh S).length c2:=(oz HJ).val 14 (zb hi 14 (by kernel_rfl));have d15:U 15=.int .i64 n:=(oz HJ).val 15 (zb hi 15 (by kernel_rfl));have hcc:=oz HC25 w hb0;have HCC:=kz hcc;clear hcc;clear hb0;go_simp;refine (oz HCC).mono ?_;rintro e w' ⟨rfl,hb⟩;exact hK _ _ ⟨za U 16 _,(by rw [zc d8,zc d13,zc d14,zc d15];rfl),(oz HJ).put (oz HLO) 16 (by decide) _ hb rfl⟩
     ·clear hlt hif HCL;have d8:U 8=.bool true:=(oz HJ).val 8 (zb hi 8 (by kernel_rfl));have d12:U 12=.bool cn:=(oz HJ).val 12 (zb hi 12 (by kernel_rfl));have d16:U 16=.bool cn:=(oz HJ).val 16 (zb hi 16 (by kernel_rfl));have e1:(cn == cn)=true:=by simp
      go_simp;exact hK _ _ ⟨za U 17 _,(by rw [zc d8,zc d12,zc d16];rfl),(oz HJ).put (oz HLO) 17 (by decide) _ zl rfl⟩
     ·clear hlt hif HCL;have d8:U 8=.bool true:=(oz HJ).val 8 (zb hi 8 (by kernel_rfl));have d17:U 17=.bool true:=(oz HJ).val 17 (zb hi 17 (by kernel_rfl));go_simp;exact hK _ _ ⟨za U 18 _,(by rw [zc d8,zc d17];rfl),(oz HJ).put (oz HLO) 18 (by decide) _ zl rfl⟩
     ·clear hlt hif HCL;have d18:U 18=.bool true:=(oz HJ).val 18 (zb hi 18 (by kernel_rfl));go_simp;exact hK _ _ ⟨za U 19 _,(by rw [zc d18];rfl),(oz HJ).put (oz HLO) 19 (by decide) _ zl rfl⟩
     ·clear hlt hif HCL;have d19:U 19=.bool true:=(oz HJ).val 19 (zb hi 19 (by kernel_rfl));go_simp;exact hK _ _ ⟨za U 20 _,(by rw [zc d19];rfl),(oz HJ).put (oz HLO) 20 (by decide) _ zl rfl⟩
     ·clear hlt hif HCL;have d19:U 19=.bool true:=(oz HJ).val 19 (zb hi 19 (by kernel_rfl));go_simp;exact hK _ _ ⟨za U 21 _,(by rw [zc d19];rfl),(oz HJ).put (oz HLO) 21 (by decide) _ zl rfl⟩
     ·have hb0:=(oz HJ).bel (XA (oz HCL) hi 30 _ rfl (by kernel_rfl) (by decide) (by omega))
      replace hb0:Below X5.heap.size X5 w:=jN hb0
      clear hlt hif HCL;have d19:U 19=.bool true:=(oz HJ).val 19 (zb hi 19 (by kernel_rfl));have d20:U 20=.pointer (some ⟨B,0,none⟩):=(oz HJ).val 20 (zb hi 20 (by kernel_rfl));have d21:U 21=.string S:=(oz HJ).val 21 (zb hi 21 (by kernel_rfl));have hcc:=oz HC13 w hb0;have HCC:=kz hcc;clear hcc;clear hb0;go_simp;refine (oz HCC).mono ?_;rintro e w' ⟨rfl,hb⟩;exact hK _ _ ⟨za U 22 _,(by rw [zc d19,zc d20,zc d21];rfl),(oz HJ).put (oz HLO) 22 (by decide) _ hb rfl⟩
     ·have hb0:=(oz HJ).bel (XA (oz HCL) hi 30 _ rfl (by kernel_rfl) (by decide) (by omega))
      replace hb0:Below X5.heap.size X5 w:=jN hb0
      clear hlt hif HCL;have d19:U 19=.bool true:=(oz HJ).val 19 (zb hi 19 (by kernel_rfl));have z0:=(oz HTB w hb0).z0;have z1:=(oz HTB w hb0).z1;have z2:=(oz HTB w hb0).z2;have z3:=(oz HTB w hb0).z3;have z4:=(oz HTB w hb0).z4;have z5:=(oz HTB w hb0).z5;have z6:=(oz HTB w hb0).z6;have z7:=(oz HTB w hb0).z7;clear hb0;go_simp;exact hK _ _ ⟨za U 23 _,(by rw [zc d19];rfl),(oz HJ).put (oz HLO) 23 (by decide) _ zl rfl⟩
     ·clear hlt hif HCL;have d19:U 19=.bool true:=(oz HJ).val 19 (zb hi 19 (by kernel_rfl));go_simp;exact hK _ _ ⟨za U 24 _,(by rw [zc d19];rfl),(oz HJ).put (oz HLO) 24 (by decide) _ zl rfl⟩
     ·have hb0:=(oz HJ).bel (XA (oz HCL) hi 30 _ rfl (by kernel_rfl) (by decide) (by omega))
      replace hb0:Below X5.heap.size X5 w:=jN hb0
      clear hlt hif HCL;have d19:U 19=.bool true:=(oz HJ).val 19 (zb hi 19 (by kernel_rfl));have d23:U 23=.agg #[.slice A.a0 T.sc.length A.c0,.slice A.a1 T.co.length A.c1,.slice A.a2 T.ma.length A.c2,.slice A.a3 T.pr.length A.c3,.slice A.a4 T.fo.length A.c4,.slice A.a5 T.lk.length A.c5,.slice A.a6 T.dr.length A.c6,.slice A.a7 T.al.length A.c7]:=(oz HJ).val 23 (zb hi 23 (by kernel_rfl));have d24:U 24=.string S:=(oz HJ).val 24 (zb hi 24 (by kernel_rfl));have hcc:=oz HC26 w hb0;have HCC:=kz hcc;clear hcc;clear hb0;go_simp;refine (oz HCC).mono ?_;rintro e w' ⟨rfl,hb⟩;exact hK _ _ ⟨za U 25 _,(by rw [zc d19,zc d23,zc d24];rfl),(oz HJ).put (oz HLO) 25 (by decide) _ hb rfl⟩
     ·clear hlt hif HCL;have d19:U 19=.bool true:=(oz HJ).val 19 (zb hi 19 (by kernel_rfl));have d22:U 22=.int .i64 lv14:=(oz HJ).val 22 (zb hi 22 (by kernel_rfl));have d25:U 25=.int .i64 lv14:=(oz HJ).val 25 (zb hi 25 (by kernel_rfl));have e1:(lv14 == lv14)=true:=by simp
      go_simp;exact hK _ _ ⟨za U 26 _,(by rw [zc d19,zc d22,zc d25];rfl),(oz HJ).put (oz HLO) 26 (by decide) _ zl rfl⟩
     ·clear hlt hif HCL;have d19:U 19=.bool true:=(oz HJ).val 19 (zb hi 19 (by kernel_rfl));have d26:U 26=.bool true:=(oz HJ).val 26 (zb hi 26 (by kernel_rfl));go_simp;exact hK _ _ ⟨za U 27 _,(by rw [zc d19,zc d26];rfl),(oz HJ).put (oz HLO) 27 (by decide) _ zl rfl⟩
     ·clear hlt hif HCL;have d27:U 27=.bool true:=(oz HJ).val 27 (zb hi 27 (by kernel_rfl));go_simp;exact hK _ _ ⟨za U 28 _,(by rw [zc d27];rfl),(oz HJ).put (oz HLO) 28 (by decide) _ zl rfl⟩
     ·clear hlt hif HCL;have d28:U 28=.bool true:=(oz HJ).val 28 (zb hi 28 (by kernel_rfl));go_simp;exact hK _ _ ⟨za U 29 _,(by rw [zc d28];rfl),(oz HJ).put (oz HLO) 29 (by decide) _ zl rfl⟩
     ·have hb0:=(oz HJ).bel (by have h1:=q9 (l:=l) (j:=30) (by omega);rw [← h1];exact h0)
      replace hb0:Below X5.heap.size X5 w:=jN hb0
      clear hlt hif HCL;have d28:U 28=.bool true:=(oz HJ).val 28 (zb hi 28 (by kernel_rfl));have d29:U 29=.pointer (some ⟨KK,0,none⟩):=(oz HJ).val 29 (zb hi 29 (by kernel_rfl));have hcc:=oz HCAP w hb0;have HCC:=kz hcc;clear hcc;clear hb0;go_simp;refine (oz HCC).mono ?_;rintro e w' ⟨rfl,hb⟩;exact hK _ _ ⟨za U 30 _,(by rw [zc d28,zc d29];rfl),(oz HJ).putX (by omega) _ hb rfl⟩
     ·clear hlt hif HCL;have d28:U 28=.bool true:=(oz HJ).val 28 (zb hi 28 (by kernel_rfl));have d30:U 30=.bool true:=(oz HJ).val 30 (zb hi 30 (by kernel_rfl));go_simp;exact hK _ _ ⟨za U 31 _,(by rw [zc d28,zc d30];rfl),(oz HJ).put (oz HLO) 31 (by decide) _ zl rfl⟩
     ·clear hlt hif HCL;have d31:U 31=.bool true:=(oz HJ).val 31 (zb hi 31 (by kernel_rfl));go_simp;exact hK _ _ ⟨za U 32 _,(by rw [zc d31];rfl),(oz HJ).put (oz HLO) 32 (by decide) _ zl rfl⟩
     ·clear hlt hif HCL;have d32:U 32=.bool true:=(oz HJ).val 32 (zb hi 32 (by kernel_rfl));have hcc:=oz HCKN w;have HCC:=kz hcc;clear hcc;go_simp;refine (oz HCC).mono ?_;rintro e w' ⟨rfl,hb⟩;exact hK _ _ ⟨za U 33 _,(by rw [zc d32];rfl),(oz HJ).put (oz HLO) 33 (by decide) _ hb rfl⟩
     ·clear hlt hif HCL;have d32:U 32=.bool true:=(oz HJ).val 32 (zb hi 32 (by kernel_rfl));have d33:U 33=.bool true:=(oz HJ).val 33 (zb hi 33 (by kernel_rfl));go_simp;exact hK _ _ ⟨za U 34 _,(by rw [zc d32,zc d33];rfl),(oz HJ).put (oz HLO) 34 (by decide) _ zl rfl⟩
    ·rintro l a w ⟨U,rfl,hJ⟩ hall;have d34:U 34=.bool true:=hJ.val 34 (hall 34 (by decide) (by decide));have HBJ:=kz (oz HEND w (jN hJ.low));clear hJ hall;refine Ky rfl (fun K hK =>?_);go_simp;refine hK _ _ ?_;clear hK;go_wp2_with fail
     go_ret;exact ⟨rfl,oz HBJ⟩
theorem of14 (T:TV) (hT:TabB T∧zdz T) (a0 a1 a2 a3 a4 a5 a6 a7:Option Addr) (c0 c1 c2 c3 c4 c5 c6 c7:Nat) (us:List Value) (s:ByteArray) (hs:s.size≤1048576) (n:Int) (W:World) (hA:TabIn W T a0 a1 a2 a3 a4 a5 a6 a7 us) :
  Calls Tryz.prog 4 #[.agg (ze0 T a0 a1 a2 a3 a4 a5 a6 a7 c0 c1 c2 c3 c4 c5 c6 c7),.string s,.int .i64 n] W fun e w' =>e=.returned (.bool true)∧Below W.heap.size W w' :=
 zi7 T hT.1 hT.2 ⟨a0,a1,a2,a3,a4,a5,a6,a7,c0,c1,c2,c3,c4,c5,c6,c7,us⟩ s (by omega) n W hA
end Go.Proofs.YthchopdfmchpkaaGreat
