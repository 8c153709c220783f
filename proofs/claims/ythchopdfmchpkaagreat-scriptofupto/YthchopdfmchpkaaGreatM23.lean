/- Texts of this claim, one behind the other. -/
import Derived.Test.YthchopdfmchpkaaGreatM22
namespace Go.Proofs.YthchopdfmchpkaaGreat
open Go.RowKit Go.Shelf Go.Maps
set_option linter.unusedVariables false
set_option maxRecDepth 100000
set_option maxHeartbeats 8000000
noncomputable def ulReg3:Code:=match Tryz.f93.body with
 | some (.seq _ (.seq _ (.seq _ (.seq r _)))) =>r
 | _ =>.skip
noncomputable def ulReg8:Code:=match Tryz.f93.body with
 | some (.seq _ (.seq _ (.seq _ (.seq _ (.seq _ (.seq _ (.seq _ (.seq _ (.seq r _))))))))) =>r
 | _ =>.skip
def u3D (lo C4:Nat):Nat→Value→World→Prop
 | 0,v,w =>v=.pointer (some ⟨C4,0,none⟩)
 | 1,v,w =>v=.agg #[.int .i32 65,.int .i32 90]
 | 2,v,w => ∃ g,v=.slice (some ⟨g,0,none⟩) 1 1∧Blk w g #[.int .i32 65,.int .i32 90] 94
 | 3,v,w => ∃ B,v=.pointer (some ⟨B,0,none⟩)∧SetV w [(65,90)] B
 | 4,v,w => ∃ B,v=.pointer (some ⟨B,0,none⟩)∧SetV w zcY B
 | 5,v,w => ∃ g,v=.pointer (some ⟨g,0,none⟩)∧lo≤g∧Blk w g #[.pointer none] 147
 | _,v,w =>True
def zkP (j:Nat):Bool:=false
theorem Kq {lo C4:Nat} {w w':World} (hb:Below w.heap.size w w'):∀ (j:Nat) (v:Value),u3D lo C4 j v w→u3D lo C4 j v w'
 | 0,v,h =>h
 | 1,v,h =>h
 | 2,v,h =>let ⟨g,e,h2⟩:=h; ⟨g,e,h2.below hb h2.lt⟩
 | 3,v,h =>let ⟨B,e,h2⟩:=h; ⟨B,e,h2.below hb⟩
 | 4,v,h =>let ⟨B,e,h2⟩:=h; ⟨B,e,h2.below hb⟩
 | 5,v,h =>let ⟨g,e,h0,h2⟩:=h; ⟨g,e,h0,h2.below hb h2.lt⟩
 | _+6,v,h =>h
theorem Kr {lo C4:Nat} {w:World} (j:Nat) (v:Value) (hm:zkP j=true) (h:u3D lo C4 j v w):∀ b,v.ownBlock=some b→b < w.heap.size:=by
 cases hm
theorem ziV {w:World} {g C:Nat} {l:List (Int × Int)} (b:Blk w g #[.pointer none] 147) (h:SetV w l C):StP (w.setCell ⟨g,0,none⟩ (.pointer (some ⟨C,0,none⟩))) g C l :=
 ⟨b.set 0 _,XTy.setV (X:=fun x =>x=g) (fun x e =>by subst e;exact .inl ⟨_,_,b,.inr rfl⟩) (Yu w g 0 _) h⟩
theorem zdD {wb:World} {g4 C4:Nat} {z0 z1 z2 z3 z5 z6 z7 z8 z9 z10 z11 z12 z13 z14 z15 z16 z17 z18 z19 z20 z21 z22 z23 z24 z25 z26 z27 z28 z29 z30 z31 z32 z33 z34 z35 z36 z37 z38 z39 z40 z41 z42 z43 z44 z45 z46 z47 z48 z49 z50 z51 z52 z53 z54 z55 z56 z57 z58 z59 z60 z61 z62 z63 z64 z65 z66 z67 z68 z69 z70 z71 z72 z73 z74 z75 z76 z77 z78 z79 z80 z81 z82 z83 z84 z85 z86 z87 z88 z89 z90 z91 z92 z93 z94 z95:Value} {Q:Exit→Act→World→Prop} (hmx:Tryz.prog.follows .mixedOrders=true)
  (HF:Hz (∀ w1,Below wb.drew.heap.size wb.drew w1→StP w1 g4 C4 zbj))
  (hQ:∀ (U:Nat→Value) (g5 C5:Nat) (wn:World),Hz (StP wn g5 C5 zcY∧Below wb.heap.size wb wn)→Q .normal { tmps:=#[z0,z1,z2,z3,.pointer (some ⟨g4,0,none⟩),.pointer (some ⟨g5,0,none⟩),z6,z7,z8,z9,z10,z11,z12,z13,z14,z15,z16,z17,U 0,U 1,U 2,U 3,U 4,z23,z24,z25,z26,z27,z28,z29,z30,z31,z32,z33,z34,z35,z36,z37,z38,z39,z40,z41,z42,z43,z44,z45,z46,z47,z48,z49,z50,z51,z52,z53,z54,z55,z56,z57,z58,z59,z60,z61,z62,z63,z64,z65,z66,z67,z68,z69,z70,z71,z72,z73,z74,z75,z76,z77,z78,z79,z80,z81,z82,z83,z84,z85,z86,z87,z88,z89,z90,z91,z92,z93,z94,z95],defers := [] } wn) :
  Code.wp Tryz.prog ulReg3 Q { tmps:=#[z0,z1,z2,z3,.pointer (some ⟨g4,0,none⟩),z5,z6,z7,z8,z9,z10,z11,z12,z13,z14,z15,z16,z17,z18,z19,z20,z21,z22,z23,z24,z25,z26,z27,z28,z29,z30,z31,z32,z33,z34,z35,z36,z37,z38,z39,z40,z41,z42,z43,z44,z45,z46,z47,z48,z49,z50,z51,z52,z53,z54,z55,z56,z57,z58,z59,z60,z61,z62,z63,z64,z65,z66,z67,z68,z69,z70,z71,z72,z73,z74,z75,z76,z77,z78,z79,z80,z81,z82,z83,z84,z85,z86,z87,z88,z89,z90,z91,z92,z93,z94,z95],defers := [] } wb:=by
 have HQ:=kz hQ;clear hQ
 delta ulReg3 Tryz.f93
 dsimp only;refine zn hmx 6 (by decide) (by kernel_rfl) (by kernel_rfl) (fun l a w => ∃ U:Nat→Value,a = { tmps:=#[z0,z1,z2,z3,.pointer (some ⟨g4,0,none⟩),U 5,z6,z7,z8,z9,z10,z11,z12,z13,z14,z15,z16,z17,U 0,U 1,U 2,U 3,U 4,z23,z24,z25,z26,z27,z28,z29,z30,z31,z32,z33,z34,z35,z36,z37,z38,z39,z40,z41,z42,z43,z44,z45,z46,z47,z48,z49,z50,z51,z52,z53,z54,z55,z56,z57,z58,z59,z60,z61,z62,z63,z64,z65,z66,z67,z68,z69,z70,z71,z72,z73,z74,z75,z76,z77,z78,z79,z80,z81,z82,z83,z84,z85,z86,z87,z88,z89,z90,z91,z92,z93,z94,z95],defers := [] }∧RgJ (wb.drew) (wb.drew.heap.size) (u3D wb.drew.heap.size C4) zkP l U w) ⟨fun x =>match x with | 0 =>z18 | 1 =>z19 | 2 =>z20 | 3 =>z21 | 4 =>z22 | _ =>z5,rfl,RgJ.start _ _ zD⟩ ?_ ?_
 ·rintro l a w i ⟨U,rfl,hJ⟩ hl hi hif;have h0:=(mem_ready.1 hi).1;have hlt:=Xo hl h0;have HJ:=kz hJ;clear hJ hl
  replace hlt:i < 7:=hlt
  obtain rfl | rfl | rfl | rfl | rfl | rfl:i=0∨i=1∨i=2∨i=3∨i=4∨i=5:=by omega
  any_goals refine Ky rfl (fun K hK =>?_)
  ·clear hlt hif;have q0:=(oz HF w (oz HJ).bel).bx.cell 0;go_simp;exact hK _ _ ⟨za U 0 _,rfl,(oz HJ).put 0 _ h0 zl (Kq zl) rfl Kr (zJ rfl)⟩
  ·clear hlt hif;go_simp;exact hK _ _ ⟨za U 1 _,rfl,(oz HJ).put 1 _ h0 zl (Kq zl) rfl Kr (zJ rfl)⟩
  ·clear hlt hif;have d1:U 1=.agg #[.int .i32 65,.int .i32 90]:=(oz HJ).val 1 (zb hi 1 (by kernel_rfl));go_simp;exact hK _ _ ⟨za U 2 _,(by rw [zc d1];rfl),(oz HJ).put 2 _ h0 (zl.alloc zD _) (Kq (zl.alloc zD _)) ⟨_,rfl,Blk.new w _ _⟩ Kr (zJ rfl)⟩
  ·clear hlt hif;obtain ⟨g2,d2,h2⟩:=(oz HJ).val 2 (zb hi 2 (by kernel_rfl));go_simp;refine (XV [(65,90)] 1 rfl (by decide) (by unfold yO;decide) g2 _ _ w h2 rfl).mono ?_;rintro e w' ⟨C,rfl,hs,hb⟩;exact hK _ _ ⟨za U 3 _,(by rw [zc d2];rfl),(oz HJ).put 3 _ h0 hb (Kq hb) ⟨C,rfl,hs⟩ Kr (zJ rfl)⟩
  ·clear hlt hif;have d0:U 0=.pointer (some ⟨C4,0,none⟩):=(oz HJ).val 0 (zb hi 0 (by kernel_rfl));obtain ⟨B3,d3,h3⟩:=(oz HJ).val 3 (zb hi 3 (by kernel_rfl));go_simp;refine (KQ (l:=zcY) (by decide) (by decide) (by decide) ziO (oz HF w (oz HJ).bel).st h3).mono ?_;rintro e w' ⟨C,rfl,hs,hb⟩;exact hK _ _ ⟨za U 4 _,(by rw [zc d0,zc d3];rfl),(oz HJ).put 4 _ h0 hb (Kq hb) ⟨C,rfl,hs⟩ Kr (zJ rfl)⟩
  ·clear hlt hif;go_simp;exact hK _ _ ⟨za U 5 _,rfl,(oz HJ).put 5 _ h0 (zl.alloc zD _) (Kq (zl.alloc zD _)) ⟨_,rfl,(oz HJ).sz,Blk.new w _ _⟩ Kr (zJ rfl)⟩
 ·rintro l a w ⟨U,rfl,hJ⟩ hall;obtain ⟨B4,d4,h4⟩:=hJ.val 4 (hall 4 (by decide) (by decide));obtain ⟨g5,d5,l5,h5⟩:=hJ.val 5 (hall 5 (by decide) (by decide));have c5:=h5.cell 0;have f5:=h5.frozen 0;have HN:Hz (StP (w.setCell ⟨g5,0,none⟩ (.pointer (some ⟨B4,0,none⟩))) g5 B4 zcY∧Below wb.heap.size wb (w.setCell ⟨g5,0,none⟩ (.pointer (some ⟨B4,0,none⟩)))):=kz ⟨ziV h5 h4,YU ((show Below wb.heap.size wb wb.drew from ⟨rfl,rfl,rfl,zD,fun _ _ =>rfl⟩).trans hJ.bel) (Yu w g5 0 _) (fun g e =>by subst e;exact l5) zD⟩;clear hJ hall h4 h5 l5;refine Ky rfl (fun K hK =>?_);go_simp;have e:=oz HQ U _ _ _ HN;rw [d4] at e;exact hK _ _ e
structure UlF (w:World) (R B:Nat) (T:TV) (a0 a1 a2 a3 a4 a5 a6 a7:Option Addr) (c0 c1 c2 c3 c4 c5 c6 c7:Nat) (us:List Value) (Cc Ca g4 C4 g5 C5 g6 C6 C7 C8 g9 C9:Nat):Prop where
 st:StG w R B T a0 a1 a2 a3 a4 a5 a6 a7 c0 c1 c2 c3 c4 c5 c6 c7 us
 cc:w.cell? ⟨B,9,none⟩=some (.pointer (some ⟨Cc,0,none⟩))
 co:SetV w T.co Cc
 ca:w.cell? ⟨B,11,none⟩=some (.pointer (some ⟨Ca,0,none⟩))
 ao:SetV w T.al Ca
 low:StP w g4 C4 zbj
 unf:StP w g5 C5 zcY
 sti:StP w g6 C6 zgD
 com:SetV w zjE C7
 lab:SetV w zdm C8
 nev:StP w g9 C9 ziq
theorem UlF.below {w w':World} {R B:Nat} {T:TV} {a0 a1 a2 a3 a4 a5 a6 a7:Option Addr} {c0 c1 c2 c3 c4 c5 c6 c7:Nat} {us:List Value} {Cc Ca g4 C4 g5 C5 g6 C6 C7 C8 g9 C9:Nat} (h:UlF w R B T a0 a1 a2 a3 a4 a5 a6 a7 c0 c1 c2 c3 c4 c5 c6 c7 us Cc Ca g4 C4 g5 C5 g6 C6 C7 C8 g9 C9) (hb:Below w.heap.size w w'):UlF w' R B T a0 a1 a2 a3 a4 a5 a6 a7 c0 c1 c2 c3 c4 c5 c6 c7 us Cc Ca g4 C4 g5 C5 g6 C6 C7 C8 g9 C9 :=
 ⟨h.st.below hb,(hb.cell (p:=⟨B,9,none⟩) h.st.tb.lt).trans h.cc,h.co.below hb,(hb.cell (p:=⟨B,11,none⟩) h.st.tb.lt).trans h.ca,h.ao.below hb,h.low.below hb,h.unf.below hb,h.sti.below hb,h.com.below hb,h.lab.below hb,h.nev.below hb⟩
def u8D (R B:Nat) (T:TV) (a0 a1 a2 a3 a4 a5 a6 a7:Option Addr) (c0 c1 c2 c3 c4 c5 c6 c7 Cc Ca g4 C4 g5 C5 g6 C6 C7 C8 g9 C9:Nat) (x0 x1 x2 x3 x4 x5 x6 x7:Int × Int × Int):Nat→Value→World→Prop
 | 0,v,w =>v=.pointer (some ⟨B,0,none⟩)
 | 1,v,w =>v=.pointer (some ⟨B,0,none⟩)
 | 2,v,w =>v=.pointer (some ⟨B,9,none⟩)
 | 3,v,w =>v=.pointer (some ⟨Cc,0,none⟩)
 | 4,v,w =>v=.pointer (some ⟨C7,0,none⟩)
 | 5,v,w =>v=wrV x0
 | 6,v,w =>v=.pointer (some ⟨B,0,none⟩)
 | 7,v,w =>v=.pointer (some ⟨B,0,none⟩)
 | 8,v,w =>v=.pointer (some ⟨B,0,none⟩)
 | 9,v,w =>v=.pointer (some ⟨B,2,none⟩)
 | 10,v,w =>v=.slice a2 T.ma.length c2
 | 11,v,w =>v=.func (.func 170) #[] #[.pointer (some ⟨g4,0,none⟩)]
 | 12,v,w =>v=wrV x1
 | 13,v,w =>v=.pointer (some ⟨B,0,none⟩)
 | 14,v,w =>v=.pointer (some ⟨B,0,none⟩)
 | 15,v,w =>v=.pointer (some ⟨B,0,none⟩)
 | 16,v,w =>v=.pointer (some ⟨B,3,none⟩)
 | 17,v,w =>v=.slice a3 T.pr.length c3
 | 18,v,w =>v=.func (.func 172) #[] #[.pointer (some ⟨g4,0,none⟩)]
 | 19,v,w =>v=wrV x2
 | 20,v,w =>v=.pointer (some ⟨B,0,none⟩)
 | 21,v,w =>v=.pointer (some ⟨B,0,none⟩)
 | 22,v,w =>v=.pointer (some ⟨B,0,none⟩)
 | 23,v,w =>v=.pointer (some ⟨B,4,none⟩)
 | 24,v,w =>v=.slice a4 T.fo.length c4
 | 25,v,w =>v=.func (.func 173) #[] #[.pointer (some ⟨g5,0,none⟩),.pointer (some ⟨g6,0,none⟩)]
 | 26,v,w =>v=wrV x3
 | 27,v,w =>v=.pointer (some ⟨B,0,none⟩)
 | 28,v,w =>v=.pointer (some ⟨B,0,none⟩)
 | 29,v,w =>v=.pointer (some ⟨B,0,none⟩)
 | 30,v,w =>v=.pointer (some ⟨B,5,none⟩)
 | 31,v,w =>v=.slice a5 T.lk.length c5
 | 32,v,w =>v=.func (.func 174) #[] #[.pointer (some ⟨g6,0,none⟩)]
 | 33,v,w =>v=wrV x4
 | 34,v,w =>v=.pointer (some ⟨B,0,none⟩)
 | 35,v,w =>v=.pointer (some ⟨B,0,none⟩)
 | 36,v,w =>v=.pointer (some ⟨B,0,none⟩)
 | 37,v,w =>v=.pointer (some ⟨B,6,none⟩)
 | 38,v,w =>v=.slice a6 T.dr.length c6
 | 39,v,w =>v=.func (.func 176) #[] #[.pointer (some ⟨g4,0,none⟩)]
 | 40,v,w =>v=wrV x5
 | 41,v,w =>v=.pointer (some ⟨B,0,none⟩)
 | 42,v,w =>v=.pointer (some ⟨B,0,none⟩)
 | 43,v,w =>v=.pointer (some ⟨B,0,none⟩)
 | 44,v,w =>v=.pointer (some ⟨B,7,none⟩)
 | 45,v,w =>v=.slice a7 T.al.length c7
 | 46,v,w =>v=.func (.func 178) #[] #[.pointer (some ⟨g9,0,none⟩)]
 | 47,v,w =>v=wrV x6
 | 48,v,w =>v=.pointer (some ⟨B,0,none⟩)
 | 49,v,w =>v=.pointer (some ⟨B,0,none⟩)
 | 50,v,w =>v=.pointer (some ⟨B,11,none⟩)
 | 51,v,w =>v=.pointer (some ⟨Ca,0,none⟩)
 | 52,v,w =>v=.pointer (some ⟨C8,0,none⟩)
 | 53,v,w =>v=wrV x7
 | 54,v,w => ∃ g,v=.slice (some ⟨g,0,none⟩) 8 8∧g < w.heap.size∧RwW w g 0 [x0,x1,x2,x3,x4,x5,x6,x7]
 | 55,v,w =>v=wrV (orW [x0,x1,x2,x3,x4,x5,x6,x7])
 | _,v,w =>True
def zkO (j:Nat):Bool:=false
theorem zA {R B:Nat} {T:TV} {a0 a1 a2 a3 a4 a5 a6 a7:Option Addr} {c0 c1 c2 c3 c4 c5 c6 c7 Cc Ca g4 C4 g5 C5 g6 C6 C7 C8 g9 C9:Nat} {x0 x1 x2 x3 x4 x5 x6 x7:Int × Int × Int} {w w':World} (hb:Below w.heap.size w w'):∀ (j:Nat) (v:Value),u8D R B T a0 a1 a2 a3 a4 a5 a6 a7 c0 c1 c2 c3 c4 c5 c6 c7 Cc Ca g4 C4 g5 C5 g6 C6 C7 C8 g9 C9 x0 x1 x2 x3 x4 x5 x6 x7 j v w→u8D R B T a0 a1 a2 a3 a4 a5 a6 a7 c0 c1 c2 c3 c4 c5 c6 c7 Cc Ca g4 C4 g5 C5 g6 C6 C7 C8 g9 C9 x0 x1 x2 x3 x4 x5 x6 x7 j v w'
 | 0,v,h =>h
 | 1,v,h =>h
 | 2,v,h =>h
 | 3,v,h =>h
 | 4,v,h =>h
 | 5,v,h =>h
 | 6,v,h =>h
 | 7,v,h =>h
 | 8,v,h =>h
 | 9,v,h =>h
 | 10,v,h =>h
 | 11,v,h =>h
 | 12,v,h =>h
 | 13,v,h =>h
 | 14,v,h =>h
 | 15,v,h =>h
 | 16,v,h =>h
 | 17,v,h =>h
 | 18,v,h =>h
 | 19,v,h =>h
 | 20,v,h =>h
 | 21,v,h =>h
 | 22,v,h =>h
 | 23,v,h =>h
 | 24,v,h =>h
 | 25,v,h =>h
 | 26,v,h =>h
 | 27,v,h =>h
 | 28,v,h =>h
 | 29,v,h =>h
 | 30,v,h =>h
 | 31,v,h =>h
 | 32,v,h =>h
 | 33,v,h =>h
 | 34,v,h =>h
 | 35,v,h =>h
 | 36,v,h =>h
 | 37,v,h =>h
 | 38,v,h =>h
 | 39,v,h =>h
 | 40,v,h =>h
 | 41,v,h =>h
 | 42,v,h =>h
 | 43,v,h =>h
 | 44,v,h =>h
 | 45,v,h =>h
 | 46,v,h =>h
 | 47,v,h =>h
 | 48,v,h =>h
 | 49,v,h =>h
 | 50,v,h =>h
 | 51,v,h =>h
 | 52,v,h =>h
 | 53,v,h =>h
 | 54,v,h =>let ⟨g,e,h1,h2⟩:=h; ⟨g,e,zaY h1 hb.size,h2.below h1 hb⟩
 | 55,v,h =>h
 | _+56,v,h =>h
theorem zB {R B:Nat} {T:TV} {a0 a1 a2 a3 a4 a5 a6 a7:Option Addr} {c0 c1 c2 c3 c4 c5 c6 c7 Cc Ca g4 C4 g5 C5 g6 C6 C7 C8 g9 C9:Nat} {x0 x1 x2 x3 x4 x5 x6 x7:Int × Int × Int} {w:World} (j:Nat) (v:Value) (hm:zkO j=true) (h:u8D R B T a0 a1 a2 a3 a4 a5 a6 a7 c0 c1 c2 c3 c4 c5 c6 c7 Cc Ca g4 C4 g5 C5 g6 C6 C7 C8 g9 C9 x0 x1 x2 x3 x4 x5 x6 x7 j v w):∀ b,v.ownBlock=some b→b < w.heap.size:=by
 cases hm
theorem zbm (list:Int) (l:List (Int × Int)) (must:List Int):OkW (jM list l must):=by
 unfold jM;cases must.all (fun r =>zi l r) with
 | true =>intro _;rfl
 | false =>intro h;exact absurd (show (5:Int)=0 from h) (by decide)
theorem zdC {T:TV} (hO:zx T) (hz:(∀ x ∈ T.fo,x.2.size≤1048576)∧∀ x ∈ T.lk,x.2.size≤1048576) {W wb:World} {R B:Nat} {a0 a1 a2 a3 a4 a5 a6 a7:Option Addr} {c0 c1 c2 c3 c4 c5 c6 c7:Nat} {us:List Value} {Cc Ca g4 C4 g5 C5 g6 C6 C7 C8 g9 C9:Nat} {z1 z3 z10 z11 z12 z13 z14 z15 z16 z17 z18 z19 z20 z21 z22 z23 z24 z25 z26 z27 z28 z29 z30 z31 z32 z33 z34 z35 z36 z37 z38 z39 z40 z41 z42 z43 z44 z45 z46 z47 z48 z49 z50 z51 z52 z53 z54 z55 z56 z57 z58 z59 z60 z61 z62 z63 z64 z65 z66 z67 z68 z69 z70 z71 z72 z73 z74 z75 z76 z77 z78 z79 z80 z81 z82 z83 z84 z85 z86 z87 z88 z89 z90 z91 z92 z93 z94 z95:Value} {Q:Exit→Act→World→Prop} (hmx:Tryz.prog.follows .mixedOrders=true)
  (HF:Hz (∀ w1,Below wb.drew.heap.size wb.drew w1→UlF w1 R B T a0 a1 a2 a3 a4 a5 a6 a7 c0 c1 c2 c3 c4 c5 c6 c7 us Cc Ca g4 C4 g5 C5 g6 C6 C7 C8 g9 C9))
  (HB:Hz (Below W.heap.size W wb.drew∧W.heap.size≤R))
  (hQ:∀ (U:Nat→Value) (y0 y1 y2:Int) (wn:World),Hz (XK T=(y0,y1,y2)∧Below W.heap.size W wn∧Blk wn R #[.int .i64 y0,.int .i64 y1,.int .i64 y2] 89)→Q .normal { tmps:=#[.pointer (some ⟨B,0,none⟩),z1,.pointer (some ⟨R,0,none⟩),z3,.pointer (some ⟨g4,0,none⟩),.pointer (some ⟨g5,0,none⟩),.pointer (some ⟨g6,0,none⟩),.pointer (some ⟨C7,0,none⟩),.pointer (some ⟨C8,0,none⟩),.pointer (some ⟨g9,0,none⟩),z10,z11,z12,z13,z14,z15,z16,z17,z18,z19,z20,z21,z22,z23,z24,z25,z26,z27,z28,z29,z30,z31,z32,z33,z34,z35,z36,z37,z38,z39,U 0,U 1,U 2,U 3,U 4,U 5,U 6,U 7,U 8,U 9,U 10,U 11,U 12,U 13,U 14,U 15,U 16,U 17,U 18,U 19,U 20,U 21,U 22,U 23,U 24,U 25,U 26,U 27,U 28,U 29,U 30,U 31,U 32,U 33,U 34,U 35,U 36,U 37,U 38,U 39,U 40,U 41,U 42,U 43,U 44,U 45,U 46,U 47,U 48,U 49,U 50,U 51,U 52,U 53,U 54,U 55],defers := [] } wn) :
  Code.wp Tryz.prog ulReg8 Q { tmps:=#[.pointer (some ⟨B,0,none⟩),z1,.pointer (some ⟨R,0,none⟩),z3,.pointer (some ⟨g4,0,none⟩),.pointer (some ⟨g5,0,none⟩),.pointer (some ⟨g6,0,none⟩),.pointer (some ⟨C7,0,none⟩),.pointer (some ⟨C8,0,none⟩),.pointer (some ⟨g9,0,none⟩),z10,z11,z12,z13,z14,z15,z16,z17,z18,z19,z20,z21,z22,z23,z24,z25,z26,z27,z28,z29,z30,z31,z32,z33,z34,z35,z36,z37,z38,z39,z40,z41,z42,z43,z44,z45,z46,z47,z48,z49,z50,z51,z52,z53,z54,z55,z56,z57,z58,z59,z60,z61,z62,z63,z64,z65,z66,z67,z68,z69,z70,z71,z72,z73,z74,z75,z76,z77,z78,z79,z80,z81,z82,z83,z84,z85,z86,z87,z88,z89,z90,z91,z92,z93,z94,z95],defers := [] } wb:=by
 have HQ:=kz hQ;have HO:=kz hO;have HZ:=kz hz;have HMF:Hz (∀ (fn:Fn) (first cap:Array Value) (w:World),(Instr.makeFunc fn first cap).run Tryz.prog w=.ok (.func fn first cap) w):=kz (fun _ _ _ _ =>rfl);clear hQ hO hz;obtain ⟨x0,hx0⟩:∃ x,jM 2 T.co comL=x:=⟨_,rfl⟩;obtain ⟨x1,hx1⟩:∃ x,zg 3 T.ma ma0 (fun x =>if Zi x.1 then 5 else 0)=x:=⟨_,rfl⟩;obtain ⟨x2,hx2⟩:∃ x,zg 4 T.pr pr0 (fun x =>if Zi x.1 then 5 else 0)=x:=⟨_,rfl⟩;obtain ⟨x3,hx3⟩:∃ x,zg 5 T.fo mp0 (fun x =>if (Zi x.1 && decide (x.1 < 65∨90 < x.1)) || Za x.2 then 5 else 0)=x:=⟨_,rfl⟩;obtain ⟨x4,hx4⟩:∃ x,zg 6 T.lk mp0 (fun x =>if Qw x.1 || Za x.2 then 5 else 0)=x:=⟨_,rfl⟩;obtain ⟨x5,hx5⟩:∃ x,zg 7 T.dr ma0 (drF)=x:=⟨_,rfl⟩;obtain ⟨x6,hx6⟩:∃ x,zg 8 T.al ma0 (alF)=x:=⟨_,rfl⟩;obtain ⟨x7,hx7⟩:∃ x,jM 8 T.al labL=x:=⟨_,rfl⟩;have HOK:Hz (∀ x ∈ [x0,x1,x2,x3,x4,x5,x6,x7],OkW x):=kz (by
  intro x hx;simp only [List.mem_cons,List.not_mem_nil,or_false] at hx;rcases hx with rfl | rfl | rfl | rfl | rfl | rfl | rfl | rfl
  ·rw [← hx0];exact zbm _ _ _
  ·rw [← hx1];exact zR _ _ _ _
  ·rw [← hx2];exact zR _ _ _ _
  ·rw [← hx3];exact zR _ _ _ _
  ·rw [← hx4];exact zR _ _ _ _
  ·rw [← hx5];exact zR _ _ _ _
  ·rw [← hx6];exact zR _ _ _ _
  ·rw [← hx7];exact zbm _ _ _)
 have HFI:Hz (XK T=orW [x0,x1,x2,x3,x4,x5,x6,x7]):=kz (by
  unfold XK;rw [hx0,hx1,hx2,hx3,hx4,hx5,hx6,hx7])
 unfold jM at hx0;have HX0:=kz hx0;have HX1:=kz hx1;have HX2:=kz hx2;have HX3:=kz hx3;have HX4:=kz hx4;have HX5:=kz hx5;have HX6:=kz hx6;unfold jM at hx7;have HX7:=kz hx7;clear hx0 hx1 hx2 hx3 hx4 hx5 hx6 hx7
 delta ulReg8 Tryz.f93
 dsimp only;refine zn hmx 56 (by decide) (by kernel_rfl) (by kernel_rfl) (fun l a w => ∃ U:Nat→Value,a = { tmps:=#[.pointer (some ⟨B,0,none⟩),z1,.pointer (some ⟨R,0,none⟩),z3,.pointer (some ⟨g4,0,none⟩),.pointer (some ⟨g5,0,none⟩),.pointer (some ⟨g6,0,none⟩),.pointer (some ⟨C7,0,none⟩),.pointer (some ⟨C8,0,none⟩),.pointer (some ⟨g9,0,none⟩),z10,z11,z12,z13,z14,z15,z16,z17,z18,z19,z20,z21,z22,z23,z24,z25,z26,z27,z28,z29,z30,z31,z32,z33,z34,z35,z36,z37,z38,z39,U 0,U 1,U 2,U 3,U 4,U 5,U 6,U 7,U 8,U 9,U 10,U 11,U 12,U 13,U 14,U 15,U 16,U 17,U 18,U 19,U 20,U 21,U 22,U 23,U 24,U 25,U 26,U 27,U 28,U 29,U 30,U 31,U 32,U 33,U 34,U 35,U 36,U 37,U 38,U 39,U 40,U 41,U 42,U 43,U 44,U 45,U 46,U 47,U 48,U 49,U 50,U 51,U 52,U 53,U 54,U 55],defers := [] }∧RgJ (wb.drew) (wb.drew.heap.size) (u8D R B T a0 a1 a2 a3 a4 a5 a6 a7 c0 c1 c2 c3 c4 c5 c6 c7 Cc Ca g4 C4 g5 C5 g6 C6 C7 C8 g9 C9 x0 x1 x2 x3 x4 x5 x6 x7) zkO l U w) ⟨fun x =>match x with | 0 =>z40 | 1 =>z41 | 2 =>z42 | 3 =>z43 | 4 =>z44 | 5 =>z45 | 6 =>z46 | 7 =>z47 | 8 =>z48 | 9 =>z49 | 10 =>z50 | 11 =>z51 | 12 =>z52 | 13 =>z53 | 14 =>z54 | 15 =>z55 | 16 =>z56 | 17 =>z57 | 18 =>z58 | 19 =>z59 | 20 =>z60 | 21 =>z61 | 22 =>z62 | 23 =>z63 | 24 =>z64 | 25 =>z65 | 26 =>z66 | 27 =>z67 | 28 =>z68 | 29 =>z69 | 30 =>z70 | 31 =>z71 | 32 =>z72 | 33 =>z73 | 34 =>z74 | 35 =>z75 | 36 =>z76 | 37 =>z77 | 38 =>z78 | 39 =>z79 | 40 =>z80 | 41 =>z81 | 42 =>z82 | 43 =>z83 | 44 =>z84 | 45 =>z85 | 46 =>z86 | 47 =>z87 | 48 =>z88 | 49 =>z89 | 50 =>z90 | 51 =>z91 | 52 =>z92 | 53 =>z93 | 54 =>z94 | _ =>z95,rfl,RgJ.start _ _ zD⟩ ?_ ?_
 ·rintro l a w i ⟨U,rfl,hJ⟩ hl hi hif;have h0:=(mem_ready.1 hi).1;have hlt:=Xo hl h0;have HJ:=kz hJ;clear hJ hl
  replace hlt:i < 57:=hlt
  obtain rfl | rfl | rfl | rfl | rfl | rfl | rfl | rfl | rfl | rfl | rfl | rfl | rfl | rfl | rfl | rfl | rfl | rfl | rfl | rfl | rfl | rfl | rfl | rfl | rfl | rfl | rfl | rfl | rfl | rfl | rfl | rfl | rfl | rfl | rfl | rfl | rfl | rfl | rfl | rfl | rfl | rfl | rfl | rfl | rfl | rfl | rfl | rfl | rfl | rfl | rfl | rfl | rfl | rfl | rfl | rfl:i=0∨i=1∨i=2∨i=3∨i=4∨i=5∨i=6∨i=7∨i=8∨i=9∨i=10∨i=11∨i=12∨i=13∨i=14∨i=15∨i=16∨i=17∨i=18∨i=19∨i=20∨i=21∨i=22∨i=23∨i=24∨i=25∨i=26∨i=27∨i=28∨i=29∨i=30∨i=31∨i=32∨i=33∨i=34∨i=35∨i=36∨i=37∨i=38∨i=39∨i=40∨i=41∨i=42∨i=43∨i=44∨i=45∨i=46∨i=47∨i=48∨i=49∨i=50∨i=51∨i=52∨i=53∨i=54∨i=55:=by omega
  any_goals refine Ky rfl (fun K hK =>?_)
  ·clear hlt hif;go_simp;exact hK _ _ ⟨za U 0 _,rfl,(oz HJ).put 0 _ h0 zl (zA zl) rfl zB (zJ rfl)⟩
  ·clear hlt hif;have d0:U 0=.pointer (some ⟨B,0,none⟩):=(oz HJ).val 0 (zb hi 0 (by kernel_rfl));go_simp;exact hK _ _ ⟨za U 1 _,(by rw [zc d0];rfl),(oz HJ).put 1 _ h0 zl (zA zl) rfl zB (zJ rfl)⟩
  ·clear hlt hif;have d1:U 1=.pointer (some ⟨B,0,none⟩):=(oz HJ).val 1 (zb hi 1 (by kernel_rfl));go_simp;exact hK _ _ ⟨za U 2 _,(by rw [zc d1];rfl),(oz HJ).put 2 _ h0 zl (zA zl) rfl zB (zJ rfl)⟩
  ·clear hlt hif;have d2:U 2=.pointer (some ⟨B,9,none⟩):=(oz HJ).val 2 (zb hi 2 (by kernel_rfl));have q0:=(oz HF w (oz HJ).bel).cc;go_simp;exact hK _ _ ⟨za U 3 _,(by rw [zc d2];rfl),(oz HJ).put 3 _ h0 zl (zA zl) rfl zB (zJ rfl)⟩
  ·clear hlt hif;go_simp;exact hK _ _ ⟨za U 4 _,rfl,(oz HJ).put 4 _ h0 zl (zA zl) rfl zB (zJ rfl)⟩
  ·clear hlt hif;have d3:U 3=.pointer (some ⟨Cc,0,none⟩):=(oz HJ).val 3 (zb hi 3 (by kernel_rfl));have d4:U 4=.pointer (some ⟨C7,0,none⟩):=(oz HJ).val 4 (zb hi 4 (by kernel_rfl));have hf:=oz HF w (oz HJ).bel;go_simp;refine (Q6 (by decide) (by have:=(oz HO).l1;omega) 2 Cc C7 _ (zh5 T.co) w hf.co hf.com).mono ?_;rw [oz HX0];rintro e w' ⟨rfl,hb⟩;exact hK _ _ ⟨za U 5 _,(by rw [zc d3,zc d4];rfl),(oz HJ).put 5 _ h0 hb (zA hb) rfl zB (zJ rfl)⟩
  ·clear hlt hif;go_simp;exact hK _ _ ⟨za U 6 _,rfl,(oz HJ).put 6 _ h0 zl (zA zl) rfl zB (zJ rfl)⟩
  ·clear hlt hif;have d6:U 6=.pointer (some ⟨B,0,none⟩):=(oz HJ).val 6 (zb hi 6 (by kernel_rfl));go_simp;exact hK _ _ ⟨za U 7 _,(by rw [zc d6];rfl),(oz HJ).put 7 _ h0 zl (zA zl) rfl zB (zJ rfl)⟩
  ·clear hlt hif;have d7:U 7=.pointer (some ⟨B,0,none⟩):=(oz HJ).val 7 (zb hi 7 (by kernel_rfl));go_simp;exact hK _ _ ⟨za U 8 _,(by rw [zc d7];rfl),(oz HJ).put 8 _ h0 zl (zA zl) rfl zB (zJ rfl)⟩
  ·clear hlt hif;have d8:U 8=.pointer (some ⟨B,0,none⟩):=(oz HJ).val 8 (zb hi 8 (by kernel_rfl));go_simp;exact hK _ _ ⟨za U 9 _,(by rw [zc d8];rfl),(oz HJ).put 9 _ h0 zl (zA zl) rfl zB (zJ rfl)⟩
  ·clear hlt hif;have d9:U 9=.pointer (some ⟨B,2,none⟩):=(oz HJ).val 9 (zb hi 9 (by kernel_rfl));have q0:=(oz HF w (oz HJ).bel).st.tb.k2;go_simp;exact hK _ _ ⟨za U 10 _,(by rw [zc d9];rfl),(oz HJ).put 10 _ h0 zl (zA zl) rfl zB (zJ rfl)⟩
  ·clear hlt hif;have hmf:=oz HMF;go_simp;exact hK _ _ ⟨za U 11 _,rfl,(oz HJ).put 11 _ h0 zl (zA zl) rfl zB (zJ rfl)⟩
  ·clear hlt hif;have d10:U 10=.slice a2 T.ma.length c2:=(oz HJ).val 10 (zb hi 10 (by kernel_rfl));have d11:U 11=.func (.func 170) #[] #[.pointer (some ⟨g4,0,none⟩)]:=(oz HJ).val 11 (zb hi 11 (by kernel_rfl));have hf:=oz HF w (oz HJ).bel;go_simp;refine (zdo T.ma (by have:=(oz HO).l2;omega) 3 (fun x =>if Zi x.1 then 5 else 0) 170 #[.pointer (some ⟨g4,0,none⟩)] (enters_of Tryz.func170 (by kernel_rfl) rfl) (fun w =>StP w g4 C4 zbj) (fun _ _ h hb =>h.below hb) (fun x hx w hw =>by
    have:=zey (by decide) g4 C4 x.1 x.2 w hw;rwa [zcd ((oz HO).f2 x hx).1] at this) a2 c2 w hf.low hf.st.tb.ti.r2).mono ?_
   rw [oz HX1];rintro e w' ⟨rfl,hb⟩;exact hK _ _ ⟨za U 12 _,(by rw [zc d10,zc d11];rfl),(oz HJ).put 12 _ h0 hb (zA hb) rfl zB (zJ rfl)⟩
  ·clear hlt hif;go_simp;exact hK _ _ ⟨za U 13 _,rfl,(oz HJ).put 13 _ h0 zl (zA zl) rfl zB (zJ rfl)⟩
  ·clear hlt hif;have d13:U 13=.pointer (some ⟨B,0,none⟩):=(oz HJ).val 13 (zb hi 13 (by kernel_rfl));go_simp;exact hK _ _ ⟨za U 14 _,(by rw [zc d13];rfl),(oz HJ).put 14 _ h0 zl (zA zl) rfl zB (zJ rfl)⟩
  ·clear hlt hif;have d14:U 14=.pointer (some ⟨B,0,none⟩):=(oz HJ).val 14 (zb hi 14 (by kernel_rfl));go_simp;exact hK _ _ ⟨za U 15 _,(by rw [zc d14];rfl),(oz HJ).put 15 _ h0 zl (zA zl) rfl zB (zJ rfl)⟩
  ·clear hlt hif;have d15:U 15=.pointer (some ⟨B,0,none⟩):=(oz HJ).val 15 (zb hi 15 (by kernel_rfl));go_simp;exact hK _ _ ⟨za U 16 _,(by rw [zc d15];rfl),(oz HJ).put 16 _ h0 zl (zA zl) rfl zB (zJ rfl)⟩
  ·clear hlt hif;have d16:U 16=.pointer (some ⟨B,3,none⟩):=(oz HJ).val 16 (zb hi 16 (by kernel_rfl));have q0:=(oz HF w (oz HJ).bel).st.tb.k3;go_simp;exact hK _ _ ⟨za U 17 _,(by rw [zc d16];rfl),(oz HJ).put 17 _ h0 zl (zA zl) rfl zB (zJ rfl)⟩
  ·clear hlt hif;have hmf:=oz HMF;go_simp;exact hK _ _ ⟨za U 18 _,rfl,(oz HJ).put 18 _ h0 zl (zA zl) rfl zB (zJ rfl)⟩
  ·clear hlt hif;have d17:U 17=.slice a3 T.pr.length c3:=(oz HJ).val 17 (zb hi 17 (by kernel_rfl));have d18:U 18=.func (.func 172) #[] #[.pointer (some ⟨g4,0,none⟩)]:=(oz HJ).val 18 (zb hi 18 (by kernel_rfl));have hf:=oz HF w (oz HJ).bel;go_simp;refine (zar T.pr (by have:=(oz HO).l3;omega) 4 (fun x =>if Zi x.1 then 5 else 0) 172 #[.pointer (some ⟨g4,0,none⟩)] (enters_of Tryz.func172 (by kernel_rfl) rfl) (fun w =>StP w g4 C4 zbj) (fun _ _ h hb =>h.below hb) (fun x hx w hw =>by
    have:=zex (by decide) g4 C4 x.1 x.2.1 x.2.2 w hw;rwa [zcd ((oz HO).f3 x hx).1] at this) a3 c3 w hf.low hf.st.tb.ti.r3).mono ?_
   rw [oz HX2];rintro e w' ⟨rfl,hb⟩;exact hK _ _ ⟨za U 19 _,(by rw [zc d17,zc d18];rfl),(oz HJ).put 19 _ h0 hb (zA hb) rfl zB (zJ rfl)⟩
  ·clear hlt hif;go_simp;exact hK _ _ ⟨za U 20 _,rfl,(oz HJ).put 20 _ h0 zl (zA zl) rfl zB (zJ rfl)⟩
  ·clear hlt hif;have d20:U 20=.pointer (some ⟨B,0,none⟩):=(oz HJ).val 20 (zb hi 20 (by kernel_rfl));go_simp;exact hK _ _ ⟨za U 21 _,(by rw [zc d20];rfl),(oz HJ).put 21 _ h0 zl (zA zl) rfl zB (zJ rfl)⟩
  ·clear hlt hif;have d21:U 21=.pointer (some ⟨B,0,none⟩):=(oz HJ).val 21 (zb hi 21 (by kernel_rfl));go_simp;exact hK _ _ ⟨za U 22 _,(by rw [zc d21];rfl),(oz HJ).put 22 _ h0 zl (zA zl) rfl zB (zJ rfl)⟩
  ·clear hlt hif;have d22:U 22=.pointer (some ⟨B,0,none⟩):=(oz HJ).val 22 (zb hi 22 (by kernel_rfl));go_simp;exact hK _ _ ⟨za U 23 _,(by rw [zc d22];rfl),(oz HJ).put 23 _ h0 zl (zA zl) rfl zB (zJ rfl)⟩
  ·clear hlt hif;have d23:U 23=.pointer (some ⟨B,4,none⟩):=(oz HJ).val 23 (zb hi 23 (by kernel_rfl));have q0:=(oz HF w (oz HJ).bel).st.tb.k4;go_simp;exact hK _ _ ⟨za U 24 _,(by rw [zc d23];rfl),(oz HJ).put 24 _ h0 zl (zA zl) rfl zB (zJ rfl)⟩
  ·clear hlt hif;have hmf:=oz HMF;go_simp;exact hK _ _ ⟨za U 25 _,rfl,(oz HJ).put 25 _ h0 zl (zA zl) rfl zB (zJ rfl)⟩
  ·clear hlt hif;have d24:U 24=.slice a4 T.fo.length c4:=(oz HJ).val 24 (zb hi 24 (by kernel_rfl));have d25:U 25=.func (.func 173) #[] #[.pointer (some ⟨g5,0,none⟩),.pointer (some ⟨g6,0,none⟩)]:=(oz HJ).val 25 (zb hi 25 (by kernel_rfl));have hf:=oz HF w (oz HJ).bel;go_simp;refine (Y8 T.fo (by have:=(oz HO).l4;omega) 5 (fun x =>if (Zi x.1 && decide (x.1 < 65∨90 < x.1)) || Za x.2 then 5 else 0) 173 #[.pointer (some ⟨g5,0,none⟩),.pointer (some ⟨g6,0,none⟩)] (enters_of Tryz.func173 (by kernel_rfl) rfl) (fun w =>StP w g5 C5 zcY∧StP w g6 C6 zgD) (fun _ _ h hb =>⟨h.1.below hb,h.2.below hb⟩) (fun x hx w hw =>by
    have:=zew (by decide) (by decide) g5 C5 g6 C6 x.1 x.2 ((oz HZ).1 x hx) (Qf ((oz HO).f4 x hx).2) w hw.1 hw.2;rwa [zka ((oz HO).f4 x hx).1,zfl] at this) a4 c4 w ⟨hf.unf,hf.sti⟩ hf.st.tb.ti.r4).mono ?_
   rw [oz HX3];rintro e w' ⟨rfl,hb⟩;exact hK _ _ ⟨za U 26 _,(by rw [zc d24,zc d25];rfl),(oz HJ).put 26 _ h0 hb (zA hb) rfl zB (zJ rfl)⟩
  ·clear hlt hif;go_simp;exact hK _ _ ⟨za U 27 _,rfl,(oz HJ).put 27 _ h0 zl (zA zl) rfl zB (zJ rfl)⟩
  ·clear hlt hif;have d27:U 27=.pointer (some ⟨B,0,none⟩):=(oz HJ).val 27 (zb hi 27 (by kernel_rfl));go_simp;exact hK _ _ ⟨za U 28 _,(by rw [zc d27];rfl),(oz HJ).put 28 _ h0 zl (zA zl) rfl zB (zJ rfl)⟩
  ·clear hlt hif;have d28:U 28=.pointer (some ⟨B,0,none⟩):=(oz HJ).val 28 (zb hi 28 (by kernel_rfl));go_simp;exact hK _ _ ⟨za U 29 _,(by rw [zc d28];rfl),(oz HJ).put 29 _ h0 zl (zA zl) rfl zB (zJ rfl)⟩
  ·clear hlt hif;have d29:U 29=.pointer (some ⟨B,0,none⟩):=(oz HJ).val 29 (zb hi 29 (by kernel_rfl));go_simp;exact hK _ _ ⟨za U 30 _,(by rw [zc d29];rfl),(oz HJ).put 30 _ h0 zl (zA zl) rfl zB (zJ rfl)⟩
  ·clear hlt hif;have d30:U 30=.pointer (some ⟨B,5,none⟩):=(oz HJ).val 30 (zb hi 30 (by kernel_rfl));have q0:=(oz HF w (oz HJ).bel).st.tb.k5;go_simp;exact hK _ _ ⟨za U 31 _,(by rw [zc d30];rfl),(oz HJ).put 31 _ h0 zl (zA zl) rfl zB (zJ rfl)⟩
  ·clear hlt hif;have hmf:=oz HMF;go_simp;exact hK _ _ ⟨za U 32 _,rfl,(oz HJ).put 32 _ h0 zl (zA zl) rfl zB (zJ rfl)⟩
  ·clear hlt hif;have d31:U 31=.slice a5 T.lk.length c5:=(oz HJ).val 31 (zb hi 31 (by kernel_rfl));have d32:U 32=.func (.func 174) #[] #[.pointer (some ⟨g6,0,none⟩)]:=(oz HJ).val 32 (zb hi 32 (by kernel_rfl));have hf:=oz HF w (oz HJ).bel;go_simp;refine (Y8 T.lk (by have:=(oz HO).l5;omega) 6 (fun x =>if Qw x.1 || Za x.2 then 5 else 0) 174 #[.pointer (some ⟨g6,0,none⟩)] (enters_of Tryz.func174 (by kernel_rfl) rfl) (fun w =>StP w g6 C6 zgD) (fun _ _ h hb =>h.below hb) (fun x hx w hw =>by
    have:=zev (by decide) g6 C6 x.1 x.2 ((oz HZ).2 x hx) (Qf ((oz HO).f5 x hx).2) w hw;rwa [zeK ((oz HO).f5 x hx).1,zfl] at this) a5 c5 w hf.sti hf.st.tb.ti.r5).mono ?_
   rw [oz HX4];rintro e w' ⟨rfl,hb⟩;exact hK _ _ ⟨za U 33 _,(by rw [zc d31,zc d32];rfl),(oz HJ).put 33 _ h0 hb (zA hb) rfl zB (zJ rfl)⟩
  ·clear hlt hif;go_simp;exact hK _ _ ⟨za U 34 _,rfl,(oz HJ).put 34 _ h0 zl (zA zl) rfl zB (zJ rfl)⟩
  ·clear hlt hif;have d34:U 34=.pointer (some ⟨B,0,none⟩):=(oz HJ).val 34 (zb hi 34 (by kernel_rfl));go_simp;exact hK _ _ ⟨za U 35 _,(by rw [zc d34];rfl),(oz HJ).put 35 _ h0 zl (zA zl) rfl zB (zJ rfl)⟩
  ·clear hlt hif;have d35:U 35=.pointer (some ⟨B,0,none⟩):=(oz HJ).val 35 (zb hi 35 (by kernel_rfl));go_simp;exact hK _ _ ⟨za U 36 _,(by rw [zc d35];rfl),(oz HJ).put 36 _ h0 zl (zA zl) rfl zB (zJ rfl)⟩
  ·clear hlt hif;have d36:U 36=.pointer (some ⟨B,0,none⟩):=(oz HJ).val 36 (zb hi 36 (by kernel_rfl));go_simp;exact hK _ _ ⟨za U 37 _,(by rw [zc d36];rfl),(oz HJ).put 37 _ h0 zl (zA zl) rfl zB (zJ rfl)⟩
  ·clear hlt hif;have d37:U 37=.pointer (some ⟨B,6,none⟩):=(oz HJ).val 37 (zb hi 37 (by kernel_rfl));have q0:=(oz HF w (oz HJ).bel).st.tb.k6;go_simp;exact hK _ _ ⟨za U 38 _,(by rw [zc d37];rfl),(oz HJ).put 38 _ h0 zl (zA zl) rfl zB (zJ rfl)⟩
  ·clear hlt hif;have hmf:=oz HMF;go_simp;exact hK _ _ ⟨za U 39 _,rfl,(oz HJ).put 39 _ h0 zl (zA zl) rfl zB (zJ rfl)⟩
  ·clear hlt hif;have d38:U 38=.slice a6 T.dr.length c6:=(oz HJ).val 38 (zb hi 38 (by kernel_rfl));have d39:U 39=.func (.func 176) #[] #[.pointer (some ⟨g4,0,none⟩)]:=(oz HJ).val 39 (zb hi 39 (by kernel_rfl));have hf:=oz HF w (oz HJ).bel;go_simp;refine (zdn T.dr (by have:=(oz HO).l6;omega) 7 (drF) 176 #[.pointer (some ⟨g4,0,none⟩)] (enters_of Tryz.func176 (by kernel_rfl) rfl) (fun w =>StP w g4 C4 zbj) (fun _ _ h hb =>h.below hb) (fun x hx w hw =>by
    have:=zeu (by decide) g4 C4 x.1 x.2 (Xc (yN ((oz HO).f6 x hx).1).1) ((oz HO).f6 x hx).2 _ (zd9 (yN ((oz HO).f6 x hx).1).1 ((oz HO).f6 x hx).2) w hw;rwa [show (if decide (x.1 < 128∨(x.1≤65533∧65533≤x.2))=true then (5:Int) else 0)=drF x by simp [drF]] at this) a6 c6 w hf.low hf.st.tb.ti.r6).mono ?_
   rw [oz HX5];rintro e w' ⟨rfl,hb⟩;exact hK _ _ ⟨za U 40 _,(by rw [zc d38,zc d39];rfl),(oz HJ).put 40 _ h0 hb (zA hb) rfl zB (zJ rfl)⟩
  ·clear hlt hif;go_simp;exact hK _ _ ⟨za U 41 _,rfl,(oz HJ).put 41 _ h0 zl (zA zl) rfl zB (zJ rfl)⟩
  ·clear hlt hif;have d41:U 41=.pointer (some ⟨B,0,none⟩):=(oz HJ).val 41 (zb hi 41 (by kernel_rfl));go_simp;exact hK _ _ ⟨za U 42 _,(by rw [zc d41];rfl),(oz HJ).put 42 _ h0 zl (zA zl) rfl zB (zJ rfl)⟩
  ·clear hlt hif;have d42:U 42=.pointer (some ⟨B,0,none⟩):=(oz HJ).val 42 (zb hi 42 (by kernel_rfl));go_simp;exact hK _ _ ⟨za U 43 _,(by rw [zc d42];rfl),(oz HJ).put 43 _ h0 zl (zA zl) rfl zB (zJ rfl)⟩
  ·clear hlt hif;have d43:U 43=.pointer (some ⟨B,0,none⟩):=(oz HJ).val 43 (zb hi 43 (by kernel_rfl));go_simp;exact hK _ _ ⟨za U 44 _,(by rw [zc d43];rfl),(oz HJ).put 44 _ h0 zl (zA zl) rfl zB (zJ rfl)⟩
  ·clear hlt hif;have d44:U 44=.pointer (some ⟨B,7,none⟩):=(oz HJ).val 44 (zb hi 44 (by kernel_rfl));have q0:=(oz HF w (oz HJ).bel).st.tb.k7;go_simp;exact hK _ _ ⟨za U 45 _,(by rw [zc d44];rfl),(oz HJ).put 45 _ h0 zl (zA zl) rfl zB (zJ rfl)⟩
  ·clear hlt hif;have hmf:=oz HMF;go_simp;exact hK _ _ ⟨za U 46 _,rfl,(oz HJ).put 46 _ h0 zl (zA zl) rfl zB (zJ rfl)⟩
  ·clear hlt hif;have d45:U 45=.slice a7 T.al.length c7:=(oz HJ).val 45 (zb hi 45 (by kernel_rfl));have d46:U 46=.func (.func 178) #[] #[.pointer (some ⟨g9,0,none⟩)]:=(oz HJ).val 46 (zb hi 46 (by kernel_rfl));have hf:=oz HF w (oz HJ).bel;go_simp;refine (zdn T.al (by have:=(oz HO).l7;omega) 8 (alF) 178 #[.pointer (some ⟨g9,0,none⟩)] (enters_of Tryz.func178 (by kernel_rfl) rfl) (fun w =>StP w g9 C9 ziq) (fun _ _ h hb =>h.below hb) (fun x hx w hw =>by
    exact zet (by decide) g9 C9 x.1 x.2 (Xc (yN ((oz HO).f7 x hx).1).1) ((oz HO).f7 x hx).2 _ zd5 w hw) a7 c7 w hf.nev hf.st.tb.ti.r7).mono ?_
   rw [oz HX6];rintro e w' ⟨rfl,hb⟩;exact hK _ _ ⟨za U 47 _,(by rw [zc d45,zc d46];rfl),(oz HJ).put 47 _ h0 hb (zA hb) rfl zB (zJ rfl)⟩
  ·clear hlt hif;go_simp;exact hK _ _ ⟨za U 48 _,rfl,(oz HJ).put 48 _ h0 zl (zA zl) rfl zB (zJ rfl)⟩
  ·clear hlt hif;have d48:U 48=.pointer (some ⟨B,0,none⟩):=(oz HJ).val 48 (zb hi 48 (by kernel_rfl));go_simp;exact hK _ _ ⟨za U 49 _,(by rw [zc d48];rfl),(oz HJ).put 49 _ h0 zl (zA zl) rfl zB (zJ rfl)⟩
  ·clear hlt hif;have d49:U 49=.pointer (some ⟨B,0,none⟩):=(oz HJ).val 49 (zb hi 49 (by kernel_rfl));go_simp;exact hK _ _ ⟨za U 50 _,(by rw [zc d49];rfl),(oz HJ).put 50 _ h0 zl (zA zl) rfl zB (zJ rfl)⟩
  ·clear hlt hif;have d50:U 50=.pointer (some ⟨B,11,none⟩):=(oz HJ).val 50 (zb hi 50 (by kernel_rfl));have q0:=(oz HF w (oz HJ).bel).ca;go_simp;exact hK _ _ ⟨za U 51 _,(by rw [zc d50];rfl),(oz HJ).put 51 _ h0 zl (zA zl) rfl zB (zJ rfl)⟩
  ·clear hlt hif;go_simp;exact hK _ _ ⟨za U 52 _,rfl,(oz HJ).put 52 _ h0 zl (zA zl) rfl zB (zJ rfl)⟩
  ·clear hlt hif;have d51:U 51=.pointer (some ⟨Ca,0,none⟩):=(oz HJ).val 51 (zb hi 51 (by kernel_rfl));have d52:U 52=.pointer (some ⟨C8,0,none⟩):=(oz HJ).val 52 (zb hi 52 (by kernel_rfl));have hf:=oz HF w (oz HJ).bel;go_simp;refine (Q6 (by decide) (by have:=(oz HO).l7;omega) 8 Ca C8 _ (zhU T.al) w hf.ao hf.lab).mono ?_;rw [oz HX7];rintro e w' ⟨rfl,hb⟩;exact hK _ _ ⟨za U 53 _,(by rw [zc d51,zc d52];rfl),(oz HJ).put 53 _ h0 hb (zA hb) rfl zB (zJ rfl)⟩
  ·clear hlt hif;have d5:U 5=wrV x0:=(oz HJ).val 5 (zb hi 5 (by kernel_rfl));have d12:U 12=wrV x1:=(oz HJ).val 12 (zb hi 12 (by kernel_rfl));have d19:U 19=wrV x2:=(oz HJ).val 19 (zb hi 19 (by kernel_rfl));have d26:U 26=wrV x3:=(oz HJ).val 26 (zb hi 26 (by kernel_rfl));have d33:U 33=wrV x4:=(oz HJ).val 33 (zb hi 33 (by kernel_rfl));have d40:U 40=wrV x5:=(oz HJ).val 40 (zb hi 40 (by kernel_rfl));have d47:U 47=wrV x6:=(oz HJ).val 47 (zb hi 47 (by kernel_rfl));have d53:U 53=wrV x7:=(oz HJ).val 53 (zb hi 53 (by kernel_rfl));unfold wrV at d5 d12 d19 d26 d33 d40 d47 d53;go_simp;exact hK _ _ ⟨za U 54 _,(by rw [zc d5,zc d12,zc d19,zc d26,zc d33,zc d40,zc d47,zc d53];rfl),(oz HJ).put 54 _ h0 (zl.alloc zD _) (zA (zl.alloc zD _)) ⟨_,rfl,by simp,X0 w _ [x0,x1,x2,x3,x4,x5,x6,x7] _ _ rfl rfl⟩ zB (zJ rfl)⟩
  ·clear hlt hif;obtain ⟨g54,d54,l54,h54⟩:=(oz HJ).val 54 (zb hi 54 (by kernel_rfl));go_simp;refine (qT [x0,x1,x2,x3,x4,x5,x6,x7] (by simp) (oz HOK) _ 0 _ _ l54 h54).mono ?_;rintro e w' ⟨rfl,hb⟩;exact hK _ _ ⟨za U 55 _,(by rw [zc d54];rfl),(oz HJ).put 55 _ h0 hb (zA hb) rfl zB (zJ rfl)⟩
 ·rintro l a w ⟨U,rfl,hJ⟩ hall;have d55:U 55=wrV (orW [x0,x1,x2,x3,x4,x5,x6,x7]):=hJ.val 55 (hall 55 (by decide) (by decide));have HBJ:=kz (yB ((oz HB).1.trans (hJ.bel.mono (oz HB).1.size)) (oz HF w hJ.bel).st.rs);clear hJ hall;refine Ky rfl (fun K hK =>?_);obtain ⟨y,hy⟩:∃ y,orW [x0,x1,x2,x3,x4,x5,x6,x7]=y:=⟨_,rfl⟩;rw [hy] at d55;have HY:=kz ((oz HFI).trans hy);clear hy;obtain ⟨y0,y1,y2⟩:=y;unfold wrV at d55;have r0:=(oz HBJ).2.cell 0;have f0:=(oz HBJ).2.frozen 0;have r1:=(oz HBJ).2.cell 1;have f1:=(oz HBJ).2.frozen 1;have r2:=(oz HBJ).2.cell 2;have f2:=(oz HBJ).2.frozen 2;have HN:=kz (yB (oz HY) (yB (zY (oz HBJ).1 (oz HB).2 (oz HBJ).1.size (.int .i64 y0) (.int .i64 y1) (.int .i64 y2)) (jG (oz HBJ).2 (.int .i64 y0) (.int .i64 y1) (.int .i64 y2))));go_simp;have e:=oz HQ U y0 y1 y2 _ HN;rw [d55] at e;exact hK _ _ e
structure UlB (W w:World) (R B:Nat) (T:TV) (a0 a1 a2 a3 a4 a5 a6 a7:Option Addr) (c0 c1 c2 c3 c4 c5 c6 c7:Nat) (us:List Value) (Cc Ca:Nat):Prop where
 bl:Below W.heap.size W w
 st:StG w R B T a0 a1 a2 a3 a4 a5 a6 a7 c0 c1 c2 c3 c4 c5 c6 c7 us
 cc:w.cell? ⟨B,9,none⟩=some (.pointer (some ⟨Cc,0,none⟩))
 co:SetV w T.co Cc
 ca:w.cell? ⟨B,11,none⟩=some (.pointer (some ⟨Ca,0,none⟩))
 ao:SetV w T.al Ca
theorem UlB.below {W w w':World} {R B:Nat} {T:TV} {a0 a1 a2 a3 a4 a5 a6 a7:Option Addr} {c0 c1 c2 c3 c4 c5 c6 c7:Nat} {us:List Value} {Cc Ca:Nat} (h:UlB W w R B T a0 a1 a2 a3 a4 a5 a6 a7 c0 c1 c2 c3 c4 c5 c6 c7 us Cc Ca) (hb:Below w.heap.size w w'):UlB W w' R B T a0 a1 a2 a3 a4 a5 a6 a7 c0 c1 c2 c3 c4 c5 c6 c7 us Cc Ca :=
 ⟨h.bl.trans (hb.mono h.bl.size),h.st.below hb,(hb.cell (p:=⟨B,9,none⟩) h.st.tb.lt).trans h.cc,h.co.below hb,(hb.cell (p:=⟨B,11,none⟩) h.st.tb.lt).trans h.ca,h.ao.below hb⟩
theorem zbU {w:World} {C:Nat} {l:List (Int × Int)} (h:SetV w l C):StP (w.alloc (.cells #[.pointer (some ⟨C,0,none⟩)] 147)) w.heap.size C l:=⟨Blk.new w _ _,h.below ((Below.refl _ w).alloc zD _)⟩
theorem al1 (w:World) (x:Obj):Below w.heap.size w (w.alloc x):=(Below.refl _ w).alloc zD _
theorem al2 (w:World) (x y:Obj):Below w.heap.size w ((w.alloc x).alloc y):=((Below.refl _ w).alloc zD _).alloc (by simp) _
theorem dr1 (w:World):Below w.heap.size w w.drew:=⟨rfl,rfl,rfl,zD,fun _ _ =>rfl⟩
theorem zbJ {T:TV} (hO:zx T) (hz:(∀ x ∈ T.fo,x.2.size≤1048576)∧∀ x ∈ T.lk,x.2.size≤1048576) (B:Nat) (W:World) (h:BookAt W B T):Calls Tryz.prog 93 #[.pointer (some ⟨B,0,none⟩)] W fun e w' =>e=.returned (wrV (XK T))∧Below W.heap.size W w':=by
 have hmx:=zdA
 obtain ⟨a0,a1,a2,a3,a4,a5,a6,a7,c0,c1,c2,c3,c4,c5,c6,c7,us,tb⟩:=h.tabs;obtain ⟨Cc,kc,sc⟩:=h.cos;obtain ⟨Ca,ka,sa⟩:=h.als;have hB1:=al1 W (.cells #[.int .i64 0,.int .i64 0,.int .i64 0] 89);have H1:UlB W (W.alloc (.cells #[.int .i64 0,.int .i64 0,.int .i64 0] 89)) W.heap.size B T a0 a1 a2 a3 a4 a5 a6 a7 c0 c1 c2 c3 c4 c5 c6 c7 us Cc Ca:=⟨hB1,⟨h.below hB1,Blk.new W _ _,tb.below hB1⟩,(hB1.cell (p:=⟨B,9,none⟩) tb.lt).trans kc,sc.below hB1,(hB1.cell (p:=⟨B,11,none⟩) tb.lt).trans ka,sa.below hB1⟩;have HO:=kz hO;have HZ:=kz hz;have b2:Blk ((W.alloc (.cells #[.int .i64 0,.int .i64 0,.int .i64 0] 89)).alloc (.cells #[.int .i32 0,.int .i32 127] 94)) (W.heap.size+1) #[.int .i32 0,.int .i32 127] 94:=by
  have h:=Blk.new (W.alloc (.cells #[.int .i64 0,.int .i64 0,.int .i64 0] 89)) #[.int .i32 0,.int .i32 127] 94;rw [World.size_alloc] at h;exact h
 have HC:=kz (XV [(0,127)] 1 rfl (by decide) (by unfold yO;decide) _ _ _ _ b2 rfl);have HS:=kz (H1.below (al1 _ (.cells #[.int .i32 0,.int .i32 127] 94)));clear hO hz tb kc sc ka sa hB1 H1 b2 h;go_enter Tryz.func93,Tryz.ntmps93;go_wp2_with fail
 refine (oz HC).mono ?_;rintro e w3 ⟨C3,rfl,hs,hb⟩;have HS3:=kz (yB ((oz HS).below hb) hs);clear hs hb HC HS;have HC:=kz (XV [(65533,65533)] 1 rfl (by decide) (by unfold yO;decide) _ _ _ _ (Blk.new w3 #[.int .i32 65533,.int .i32 65533] 94) rfl);have HS:=kz (yB ((oz HS3).1.below (al1 w3 (.cells #[.int .i32 65533,.int .i32 65533] 94))) ((oz HS3).2.below (al1 w3 (.cells #[.int .i32 65533,.int .i32 65533] 94))));clear HS3;go_wp2_with fail
 refine (oz HC).mono ?_;rintro e w4 ⟨Cx,rfl,hs,hb⟩;have HS4:=kz (yB ((oz HS).1.below hb) ((oz HS).2.below hb));have HC:=kz (zdB (by decide) (by decide) (oz HS4).2 hs);clear hs hb HS;go_wp2_with fail
 refine (oz HC).mono ?_;rintro e w5 ⟨C4,rfl,hs,hb⟩;have hn:=al1 w5 (.cells #[.pointer (some ⟨C4,0,none⟩)] 147);have HS:=kz (yB (((oz HS4).1.below hb).below hn) (yB (((oz HS4).2.below hb).below hn) (zbU hs)));clear hs hb hn HC HS4;go_wp2_with fail
 generalize w5.alloc _=w6 at *;obtain ⟨g4,hg4⟩:∃ g4,g4=w5.heap.size:=⟨_,rfl⟩;rw [← hg4] at HS ⊢;clear hg4;have HF:Hz (∀ w1,Below w6.drew.heap.size w6.drew w1→StP w1 g4 C4 zbj):=kz (fun w1 hb =>((oz HS).2.2.below (dr1 w6)).below hb);refine zdD hmx HF ?_;intro U g5 C5 w7 HN;have HS7:=kz (yB ((oz HS).1.below (oz HN).2) (yB ((oz HS).2.1.below (oz HN).2) (yB ((oz HS).2.2.below (oz HN).2) (oz HN).1)));clear HF HS HN;have hn:=al1 w7 (.cells #[.int .i32 0,.int .i32 31,.int .i32 45,.int .i32 46,.int .i32 65533,.int .i32 65533] 94);have HC:=kz (XV zgD 3 rfl (by decide) (by unfold yO;decide) _ _ _ _ (Blk.new w7 #[.int .i32 0,.int .i32 31,.int .i32 45,.int .i32 46,.int .i32 65533,.int .i32 65533] 94) rfl);have HS:=kz (yB ((oz HS7).1.below hn) (yB ((oz HS7).2.1.below hn) (yB ((oz HS7).2.2.1.below hn) ((oz HS7).2.2.2.below hn))));clear hn HS7;go_wp2_with fail
 refine (oz HC).mono ?_;rintro e w8 ⟨C6,rfl,hs,hb⟩;have hn:Below w8.heap.size w8 (w8.alloc (.cells #[.pointer (some ⟨C6,0,none⟩)] 147)):=al1 _ _;have hm:Below w8.heap.size w8 ((w8.alloc (.cells #[.pointer (some ⟨C6,0,none⟩)] 147)).alloc (.cells #[.int .i32 45,.int .i32 46,.int .i32 48,.int .i32 57] 94)):=al2 _ _ _;have HS8:=kz (yB (((oz HS).1.below hb).below hm) (yB (((oz HS).2.1.below hb).below hm) (yB (((oz HS).2.2.1.below hb).below hm) (yB (((oz HS).2.2.2.below hb).below hm) ((zbU hs).below (al1 _ (.cells #[.int .i32 45,.int .i32 46,.int .i32 48,.int .i32 57] 94)))))));have b9:Blk ((w8.alloc (.cells #[.pointer (some ⟨C6,0,none⟩)] 147)).alloc (.cells #[.int .i32 45,.int .i32 46,.int .i32 48,.int .i32 57] 94)) (w8.heap.size+1) #[.int .i32 45,.int .i32 46,.int .i32 48,.int .i32 57] 94:=by
  have h:=Blk.new (w8.alloc (.cells #[.pointer (some ⟨C6,0,none⟩)] 147)) #[.int .i32 45,.int .i32 46,.int .i32 48,.int .i32 57] 94;rw [World.size_alloc] at h;exact h
 have HC:=kz (XV zjE 2 rfl (by decide) (by unfold yO;decide) _ _ _ _ b9 rfl);clear hs hb hn hm HS b9;go_wp2_with fail
 refine (oz HC).mono ?_;rintro e w9 ⟨C7,rfl,hs,hb⟩;have hn:=al1 w9 (.cells #[.int .i32 45,.int .i32 45,.int .i32 48,.int .i32 57,.int .i32 97,.int .i32 122] 94);obtain ⟨g6,hg6⟩:∃ g6,g6=w8.heap.size:=⟨_,rfl⟩;rw [← hg6] at HS8 ⊢;clear hg6;have HS9:=kz (yB (((oz HS8).1.below hb).below hn) (yB (((oz HS8).2.1.below hb).below hn) (yB (((oz HS8).2.2.1.below hb).below hn) (yB (((oz HS8).2.2.2.1.below hb).below hn) (yB (((oz HS8).2.2.2.2.below hb).below hn) (hs.below hn))))));have HC:=kz (XV zdm 3 rfl (by decide) (by unfold yO;decide) _ _ _ _ (Blk.new w9 #[.int .i32 45,.int .i32 45,.int .i32 48,.int .i32 57,.int .i32 97,.int .i32 122] 94) rfl);clear hs hb hn HS8;go_wp2_with fail
 refine (oz HC).mono ?_;rintro e w10 ⟨C8,rfl,hs,hb⟩;have HS10:=kz (yB ((oz HS9).1.below hb) (yB ((oz HS9).2.1.below hb) (yB ((oz HS9).2.2.1.below hb) (yB ((oz HS9).2.2.2.1.below hb) (yB ((oz HS9).2.2.2.2.1.below hb) (yB ((oz HS9).2.2.2.2.2.below hb) hs))))));have HC:=kz (KQ (l:=ziq) (by decide) (by decide) (by decide) zb1 (oz HS10).2.1 (oz HS10).2.2.2.2.2.2);clear hs hb HS9;go_wp2_with fail
 refine (oz HC).mono ?_;rintro e w11 ⟨C9,rfl,hs,hb⟩;have hn:=al1 w11 (.cells #[.pointer (some ⟨C9,0,none⟩)] 147);have HS11:Hz (UlF (w11.alloc (.cells #[.pointer (some ⟨C9,0,none⟩)] 147)) W.heap.size B T a0 a1 a2 a3 a4 a5 a6 a7 c0 c1 c2 c3 c4 c5 c6 c7 us Cc Ca g4 C4 g5 C5 g6 C6 C7 C8 w11.heap.size C9∧Below W.heap.size W (w11.alloc (.cells #[.pointer (some ⟨C9,0,none⟩)] 147))):=kz (by
  have u:=((oz HS10).1.below hb).below hn;exact ⟨⟨u.st,u.cc,u.co,u.ca,u.ao,((oz HS10).2.2.1.below hb).below hn,((oz HS10).2.2.2.1.below hb).below hn,((oz HS10).2.2.2.2.1.below hb).below hn,((oz HS10).2.2.2.2.2.1.below hb).below hn,((oz HS10).2.2.2.2.2.2.below hb).below hn,zbU hs⟩,u.bl⟩)
 clear hs hb hn HS10 HC;go_wp2_with fail
 generalize w11.alloc _=w12 at *;have HF:Hz (∀ w1,Below w12.drew.heap.size w12.drew w1→UlF w1 W.heap.size B T a0 a1 a2 a3 a4 a5 a6 a7 c0 c1 c2 c3 c4 c5 c6 c7 us Cc Ca g4 C4 g5 C5 g6 C6 C7 C8 w11.heap.size C9):=kz (fun w1 hb =>((oz HS11).1.below (dr1 w12)).below hb);have HB:Hz (Below W.heap.size W w12.drew∧W.heap.size≤W.heap.size):=kz ⟨(oz HS11).2.trans ((dr1 w12).mono (oz HS11).2.size),zD⟩;refine zdC (oz HO) (oz HZ) hmx HF HB ?_;intro U2 y0 y1 y2 wn HN;go_wp2_with fail
 exact XS (v:=wrV (y0,y1,y2)) (jA Tryz.results93 rfl (oz HN).2.2 rfl) rfl ⟨by rw [(oz HN).1],(oz HN).2.1⟩
def wrL (T:TV):List (Int × Int × Int) := [jQ T,XH T,qC T,qP T,JI T,XK T]
theorem zj9 (T:TV):∀ x ∈ wrL T,OkW x:=by
 intro x hx;unfold wrL at hx;simp only [List.mem_cons,List.not_mem_nil,or_false] at hx;rcases hx with rfl | rfl | rfl | rfl | rfl | rfl
 ·exact zR _ _ _ _
 ·exact zR _ _ _ _
 all_goals exact jJ _
structure WrS (W w:World) (B:Nat) (T:TV):Prop where
 bl:Below W.heap.size W w
 rs:Blk w W.heap.size #[.int .i64 0,.int .i64 0,.int .i64 0] 89
 fs:Blk w (W.heap.size+1) #[.func (.func 88) #[.pointer (some ⟨B,0,none⟩)] #[],.func (.func 89) #[.pointer (some ⟨B,0,none⟩)] #[],.func (.func 90) #[.pointer (some ⟨B,0,none⟩)] #[],.func (.func 91) #[.pointer (some ⟨B,0,none⟩)] #[],.func (.func 92) #[.pointer (some ⟨B,0,none⟩)] #[],.func (.func 93) #[.pointer (some ⟨B,0,none⟩)] #[]] 127
 bk:BookAt w B T
theorem WrS.below {W w w':World} {B:Nat} {T:TV} (h:WrS W w B T) (hb:Below w.heap.size w w'):WrS W w' B T:=⟨h.bl.trans (hb.mono h.bl.size),h.rs.below hb h.rs.lt,h.fs.below hb h.fs.lt,h.bk.below hb⟩
theorem zcP {T:TV} (hO:zx T) (hz:(∀ x ∈ T.fo,x.2.size≤1048576)∧∀ x ∈ T.lk,x.2.size≤1048576) (B:Nat) (W:World) (h:BookAt W B T):Calls Tryz.prog 60 #[.pointer (some ⟨B,0,none⟩)] W fun e w' =>e=.returned (wrV (orW (wrL T)))∧Below W.heap.size W w':=by
 have hmf:=zkv
 have hB0:Below W.heap.size W ((W.alloc (.cells #[.int .i64 0,.int .i64 0,.int .i64 0] 89)).alloc (.cells #[.func (.func 88) #[.pointer (some ⟨B,0,none⟩)] #[],.func (.func 89) #[.pointer (some ⟨B,0,none⟩)] #[],.func (.func 90) #[.pointer (some ⟨B,0,none⟩)] #[],.func (.func 91) #[.pointer (some ⟨B,0,none⟩)] #[],.func (.func 92) #[.pointer (some ⟨B,0,none⟩)] #[],.func (.func 93) #[.pointer (some ⟨B,0,none⟩)] #[]] 127)):=((Below.refl _ W).alloc zD _).alloc (by simp) _;have bF:Blk ((W.alloc (.cells #[.int .i64 0,.int .i64 0,.int .i64 0] 89)).alloc (.cells #[.func (.func 88) #[.pointer (some ⟨B,0,none⟩)] #[],.func (.func 89) #[.pointer (some ⟨B,0,none⟩)] #[],.func (.func 90) #[.pointer (some ⟨B,0,none⟩)] #[],.func (.func 91) #[.pointer (some ⟨B,0,none⟩)] #[],.func (.func 92) #[.pointer (some ⟨B,0,none⟩)] #[],.func (.func 93) #[.pointer (some ⟨B,0,none⟩)] #[]] 127)) (W.heap.size+1) #[.func (.func 88) #[.pointer (some ⟨B,0,none⟩)] #[],.func (.func 89) #[.pointer (some ⟨B,0,none⟩)] #[],.func (.func 90) #[.pointer (some ⟨B,0,none⟩)] #[],.func (.func 91) #[.pointer (some ⟨B,0,none⟩)] #[],.func (.func 92) #[.pointer (some ⟨B,0,none⟩)] #[],.func (.func 93) #[.pointer (some ⟨B,0,none⟩)] #[]] 127:=by
  have h:=Blk.new (W.alloc (.cells #[.int .i64 0,.int .i64 0,.int .i64 0] 89)) #[.func (.func 88) #[.pointer (some ⟨B,0,none⟩)] #[],.func (.func 89) #[.pointer (some ⟨B,0,none⟩)] #[],.func (.func 90) #[.pointer (some ⟨B,0,none⟩)] #[],.func (.func 91) #[.pointer (some ⟨B,0,none⟩)] #[],.func (.func 92) #[.pointer (some ⟨B,0,none⟩)] #[],.func (.func 93) #[.pointer (some ⟨B,0,none⟩)] #[]] 127;rw [World.size_alloc] at h;exact h
 have H0:Hz (WrS W ((W.alloc (.cells #[.int .i64 0,.int .i64 0,.int .i64 0] 89)).alloc (.cells #[.func (.func 88) #[.pointer (some ⟨B,0,none⟩)] #[],.func (.func 89) #[.pointer (some ⟨B,0,none⟩)] #[],.func (.func 90) #[.pointer (some ⟨B,0,none⟩)] #[],.func (.func 91) #[.pointer (some ⟨B,0,none⟩)] #[],.func (.func 92) #[.pointer (some ⟨B,0,none⟩)] #[],.func (.func 93) #[.pointer (some ⟨B,0,none⟩)] #[]] 127)) B T):=kz ⟨hB0,(Blk.new W _ _).alloc _,bF,h.below hB0⟩;have HO:=kz hO;have HZ:=kz hz;have HK:=kz (zj9 T);clear hB0 bF h hO hz;go_enter Tryz.func60,Tryz.ntmps60;go_wp2_with fail
 generalize ((W.alloc _).alloc _)=u0 at *;clear hmf;go_loopw [4,5,20] (fun _ _ s20 wr => ∃ k:Nat,k≤6∧s20=.int .i64 k∧Hz (orW (wrL T)=orW ((wrL T).drop k))∧Hz (WrS W wr B T)) (fun _ _ s20 _ =>6 - (intOf s20).toNat)
 case atStart =>exact ⟨0,Zn _,rfl,kz (by rw [List.drop_zero]),H0⟩
 case round =>
  obtain ⟨k,hk,rfl,HD,HS⟩:=hrel;clear H0;obtain rfl | rfl | rfl | rfl | rfl | rfl | rfl:k=0∨k=1∨k=2∨k=3∨k=4∨k=5∨k=6:=by omega
  ·have g0:=(oz HS).fs.cell 0;have HC:=kz (Kn (oz HO) B wr (oz HS).bk);obtain ⟨x,hx⟩:∃ x,jQ T=x:=⟨_,rfl⟩;have HX:Hz (orW (wrL T)=orW (x::(wrL T).drop 1)∧OkW x):=kz ⟨by rw [oz HD, ← hx];rfl,oz HK x (by rw [← hx];unfold wrL;simp)⟩;rw [hx] at HC;clear hx HD;obtain ⟨x0,x1,x2⟩:=x;unfold wrV at HC;dsimp only at HC;by_cases hz0:x0=0
   ·obtain ⟨h0,hh⟩:=Prod.mk.inj ((oz HX).2 hz0);obtain ⟨rfl,rfl⟩:=Prod.mk.inj hh;subst h0;have HD2:Hz (orW (wrL T)=orW ((wrL T).drop 1)):=kz (by rw [(oz HX).1,ze rfl]);clear hz0 hh HX;go_wp2_with (go_at_call 88;refine (oz HC).mono ?_;rintro e w5 ⟨rfl,hb⟩;have HS2:=kz (((oz HS).below hb).below ((Below.refl _ w5).alloc zD (.cells #[.int .i64 0,.int .i64 0,.int .i64 0] 89)));clear hb)
    exact ⟨⟨1,by omega,by go_num,HD2,HS2⟩,by simp [intOf]⟩
   ·have n0:(x0 == 0)=false:=by simpa using hz0
    have n1:(x0 != 0)=true:=by simpa using hz0
    have HV:Hz (orW (wrL T)=(x0,x1,x2)):=kz (by rw [(oz HX).1,zj hz0]);clear HX;go_wp2_with (go_at_call 88;refine (oz HC).mono ?_;rintro e w5 ⟨rfl,hb⟩;have HS2:=kz (((oz HS).below hb).below ((Below.refl _ w5).alloc zD (.cells #[.int .i64 x0,.int .i64 x1,.int .i64 x2] 89)));have r0:=(oz HS2).rs.cell 0;have r1:=(oz HS2).rs.cell 1;have r2:=(oz HS2).rs.cell 2;have f0:=(oz HS2).rs.frozen 0;have f1:=(oz HS2).rs.frozen 1;have f2:=(oz HS2).rs.frozen 2;clear hb)
    rw [oz HV];exact XS (v:=wrV (x0,x1,x2)) (jA Tryz.results60 rfl (jG (oz HS2).rs _ _ _) rfl) rfl ⟨rfl,zY (oz HS2).bl zD (oz HS2).bl.size _ _ _⟩
  ·have g0:=(oz HS).fs.cell 1;have HC:=kz (zaS (oz HO) B wr (oz HS).bk);obtain ⟨x,hx⟩:∃ x,XH T=x:=⟨_,rfl⟩;have HX:Hz (orW (wrL T)=orW (x::(wrL T).drop 2)∧OkW x):=kz ⟨by rw [oz HD, ← hx];rfl,oz HK x (by rw [← hx];unfold wrL;simp)⟩;rw [hx] at HC;clear hx HD;obtain ⟨x0,x1,x2⟩:=x;unfold wrV at HC;dsimp only at HC;by_cases hz0:x0=0
   ·obtain ⟨h0,hh⟩:=Prod.mk.inj ((oz HX).2 hz0);obtain ⟨rfl,rfl⟩:=Prod.mk.inj hh;subst h0;have HD2:Hz (orW (wrL T)=orW ((wrL T).drop 2)):=kz (by rw [(oz HX).1,ze rfl]);clear hz0 hh HX;go_wp2_with (go_at_call 89;refine (oz HC).mono ?_;rintro e w5 ⟨rfl,hb⟩;have HS2:=kz (((oz HS).below hb).below ((Below.refl _ w5).alloc zD (.cells #[.int .i64 0,.int .i64 0,.int .i64 0] 89)));clear hb)
    exact ⟨⟨2,by omega,by go_num,HD2,HS2⟩,by simp [intOf]⟩
   ·have n0:(x0 == 0)=false:=by simpa using hz0
    have n1:(x0 != 0)=true:=by simpa using hz0
    have HV:Hz (orW (wrL T)=(x0,x1,x2)):=kz (by rw [(oz HX).1,zj hz0]);clear HX;go_wp2_with (go_at_call 89;refine (oz HC).mono ?_;rintro e w5 ⟨rfl,hb⟩;have HS2:=kz (((oz HS).below hb).below ((Below.refl _ w5).alloc zD (.cells #[.int .i64 x0,.int .i64 x1,.int .i64 x2] 89)));have r0:=(oz HS2).rs.cell 0;have r1:=(oz HS2).rs.cell 1;have r2:=(oz HS2).rs.cell 2;have f0:=(oz HS2).rs.frozen 0;have f1:=(oz HS2).rs.frozen 1;have f2:=(oz HS2).rs.frozen 2;clear hb)
    rw [oz HV];exact XS (v:=wrV (x0,x1,x2)) (jA Tryz.results60 rfl (jG (oz HS2).rs _ _ _) rfl) rfl ⟨rfl,zY (oz HS2).bl zD (oz HS2).bl.size _ _ _⟩
  ·have g0:=(oz HS).fs.cell 2;have HC:=kz (zbI (oz HO) B wr (oz HS).bk);obtain ⟨x,hx⟩:∃ x,qC T=x:=⟨_,rfl⟩;have HX:Hz (orW (wrL T)=orW (x::(wrL T).drop 3)∧OkW x):=kz ⟨by rw [oz HD, ← hx];rfl,oz HK x (by rw [← hx];unfold wrL;simp)⟩;rw [hx] at HC;clear hx HD;obtain ⟨x0,x1,x2⟩:=x;unfold wrV at HC;dsimp only at HC;by_cases hz0:x0=0
   ·obtain ⟨h0,hh⟩:=Prod.mk.inj ((oz HX).2 hz0);obtain ⟨rfl,rfl⟩:=Prod.mk.inj hh;subst h0;have HD2:Hz (orW (wrL T)=orW ((wrL T).drop 3)):=kz (by rw [(oz HX).1,ze rfl]);clear hz0 hh HX;go_wp2_with (go_at_call 90;refine (oz HC).mono ?_;rintro e w5 ⟨rfl,hb⟩;have HS2:=kz (((oz HS).below hb).below ((Below.refl _ w5).alloc zD (.cells #[.int .i64 0,.int .i64 0,.int .i64 0] 89)));clear hb)
    exact ⟨⟨3,by omega,by go_num,HD2,HS2⟩,by simp [intOf]⟩
   ·have n0:(x0 == 0)=false:=by simpa using hz0
    have n1:(x0 != 0)=true:=by simpa using hz0
    have HV:Hz (orW (wrL T)=(x0,x1,x2)):=kz (by rw [(oz HX).1,zj hz0]);clear HX;go_wp2_with (go_at_call 90;refine (oz HC).mono ?_;rintro e w5 ⟨rfl,hb⟩;have HS2:=kz (((oz HS).below hb).below ((Below.refl _ w5).alloc zD (.cells #[.int .i64 x0,.int .i64 x1,.int .i64 x2] 89)));have r0:=(oz HS2).rs.cell 0;have r1:=(oz HS2).rs.cell 1;have r2:=(oz HS2).rs.cell 2;have f0:=(oz HS2).rs.frozen 0;have f1:=(oz HS2).rs.frozen 1;have f2:=(oz HS2).rs.frozen 2;clear hb)
    rw [oz HV];exact XS (v:=wrV (x0,x1,x2)) (jA Tryz.results60 rfl (jG (oz HS2).rs _ _ _) rfl) rfl ⟨rfl,zY (oz HS2).bl zD (oz HS2).bl.size _ _ _⟩
  ·have g0:=(oz HS).fs.cell 3;have HC:=kz (JH (oz HO) B wr (oz HS).bk);obtain ⟨x,hx⟩:∃ x,qP T=x:=⟨_,rfl⟩;have HX:Hz (orW (wrL T)=orW (x::(wrL T).drop 4)∧OkW x):=kz ⟨by rw [oz HD, ← hx];rfl,oz HK x (by rw [← hx];unfold wrL;simp)⟩;rw [hx] at HC;clear hx HD;obtain ⟨x0,x1,x2⟩:=x;unfold wrV at HC;dsimp only at HC;by_cases hz0:x0=0
   ·obtain ⟨h0,hh⟩:=Prod.mk.inj ((oz HX).2 hz0);obtain ⟨rfl,rfl⟩:=Prod.mk.inj hh;subst h0;have HD2:Hz (orW (wrL T)=orW ((wrL T).drop 4)):=kz (by rw [(oz HX).1,ze rfl]);clear hz0 hh HX;go_wp2_with (go_at_call 91;refine (oz HC).mono ?_;rintro e w5 ⟨rfl,hb⟩;have HS2:=kz (((oz HS).below hb).below ((Below.refl _ w5).alloc zD (.cells #[.int .i64 0,.int .i64 0,.int .i64 0] 89)));clear hb)
    exact ⟨⟨4,by omega,by go_num,HD2,HS2⟩,by simp [intOf]⟩
   ·have n0:(x0 == 0)=false:=by simpa using hz0
    have n1:(x0 != 0)=true:=by simpa using hz0
    have HV:Hz (orW (wrL T)=(x0,x1,x2)):=kz (by rw [(oz HX).1,zj hz0]);clear HX;go_wp2_with (go_at_call 91;refine (oz HC).mono ?_;rintro e w5 ⟨rfl,hb⟩;have HS2:=kz (((oz HS).below hb).below ((Below.refl _ w5).alloc zD (.cells #[.int .i64 x0,.int .i64 x1,.int .i64 x2] 89)));have r0:=(oz HS2).rs.cell 0;have r1:=(oz HS2).rs.cell 1;have r2:=(oz HS2).rs.cell 2;have f0:=(oz HS2).rs.frozen 0;have f1:=(oz HS2).rs.frozen 1;have f2:=(oz HS2).rs.frozen 2;clear hb)
    rw [oz HV];exact XS (v:=wrV (x0,x1,x2)) (jA Tryz.results60 rfl (jG (oz HS2).rs _ _ _) rfl) rfl ⟨rfl,zY (oz HS2).bl zD (oz HS2).bl.size _ _ _⟩
  ·have g0:=(oz HS).fs.cell 4;have HC:=kz (QF (oz HO) (oz HZ) B wr (oz HS).bk);obtain ⟨x,hx⟩:∃ x,JI T=x:=⟨_,rfl⟩;have HX:Hz (orW (wrL T)=orW (x::(wrL T).drop 5)∧OkW x):=kz ⟨by rw [oz HD, ← hx];rfl,oz HK x (by rw [← hx];unfold wrL;simp)⟩;rw [hx] at HC;clear hx HD;obtain ⟨x0,x1,x2⟩:=x;unfold wrV at HC;dsimp only at HC;by_cases hz0:x0=0
   ·obtain ⟨h0,hh⟩:=Prod.mk.inj ((oz HX).2 hz0);obtain ⟨rfl,rfl⟩:=Prod.mk.inj hh;subst h0;have HD2:Hz (orW (wrL T)=orW ((wrL T).drop 5)):=kz (by rw [(oz HX).1,ze rfl]);clear hz0 hh HX;go_wp2_with (go_at_call 92;refine (oz HC).mono ?_;rintro e w5 ⟨rfl,hb⟩;have HS2:=kz (((oz HS).below hb).below ((Below.refl _ w5).alloc zD (.cells #[.int .i64 0,.int .i64 0,.int .i64 0] 89)));clear hb)
    exact ⟨⟨5,by omega,by go_num,HD2,HS2⟩,by simp [intOf]⟩
   ·have n0:(x0 == 0)=false:=by simpa using hz0
    have n1:(x0 != 0)=true:=by simpa using hz0
    have HV:Hz (orW (wrL T)=(x0,x1,x2)):=kz (by rw [(oz HX).1,zj hz0]);clear HX;go_wp2_with (go_at_call 92;refine (oz HC).mono ?_;rintro e w5 ⟨rfl,hb⟩;have HS2:=kz (((oz HS).below hb).below ((Below.refl _ w5).alloc zD (.cells #[.int .i64 x0,.int .i64 x1,.int .i64 x2] 89)));have r0:=(oz HS2).rs.cell 0;have r1:=(oz HS2).rs.cell 1;have r2:=(oz HS2).rs.cell 2;have f0:=(oz HS2).rs.frozen 0;have f1:=(oz HS2).rs.frozen 1;have f2:=(oz HS2).rs.frozen 2;clear hb)
    rw [oz HV];exact XS (v:=wrV (x0,x1,x2)) (jA Tryz.results60 rfl (jG (oz HS2).rs _ _ _) rfl) rfl ⟨rfl,zY (oz HS2).bl zD (oz HS2).bl.size _ _ _⟩
  ·have g0:=(oz HS).fs.cell 5;have HC:=kz (zbJ (oz HO) (oz HZ) B wr (oz HS).bk);obtain ⟨x,hx⟩:∃ x,XK T=x:=⟨_,rfl⟩;have HX:Hz (orW (wrL T)=orW (x::(wrL T).drop 6)∧OkW x):=kz ⟨by rw [oz HD, ← hx];rfl,oz HK x (by rw [← hx];unfold wrL;simp)⟩;rw [hx] at HC;clear hx HD;obtain ⟨x0,x1,x2⟩:=x;unfold wrV at HC;dsimp only at HC;by_cases hz0:x0=0
   ·obtain ⟨h0,hh⟩:=Prod.mk.inj ((oz HX).2 hz0);obtain ⟨rfl,rfl⟩:=Prod.mk.inj hh;subst h0;have HD2:Hz (orW (wrL T)=orW ((wrL T).drop 6)):=kz (by rw [(oz HX).1,ze rfl]);clear hz0 hh HX;go_wp2_with (go_at_call 93;refine (oz HC).mono ?_;rintro e w5 ⟨rfl,hb⟩;have HS2:=kz (((oz HS).below hb).below ((Below.refl _ w5).alloc zD (.cells #[.int .i64 0,.int .i64 0,.int .i64 0] 89)));clear hb)
    exact ⟨⟨6,by omega,by go_num,HD2,HS2⟩,by simp [intOf]⟩
   ·have n0:(x0 == 0)=false:=by simpa using hz0
    have n1:(x0 != 0)=true:=by simpa using hz0
    have HV:Hz (orW (wrL T)=(x0,x1,x2)):=kz (by rw [(oz HX).1,zj hz0]);clear HX;go_wp2_with (go_at_call 93;refine (oz HC).mono ?_;rintro e w5 ⟨rfl,hb⟩;have HS2:=kz (((oz HS).below hb).below ((Below.refl _ w5).alloc zD (.cells #[.int .i64 x0,.int .i64 x1,.int .i64 x2] 89)));have r0:=(oz HS2).rs.cell 0;have r1:=(oz HS2).rs.cell 1;have r2:=(oz HS2).rs.cell 2;have f0:=(oz HS2).rs.frozen 0;have f1:=(oz HS2).rs.frozen 1;have f2:=(oz HS2).rs.frozen 2;clear hb)
    rw [oz HV];exact XS (v:=wrV (x0,x1,x2)) (jA Tryz.results60 rfl (jG (oz HS2).rs _ _ _) rfl) rfl ⟨rfl,zY (oz HS2).bl zD (oz HS2).bl.size _ _ _⟩
  ·have HV:Hz (orW (wrL T)=(0,0,0)):=kz (by rw [oz HD];rfl);have r0:=(oz HS).rs.cell 0;have r1:=(oz HS).rs.cell 1;have r2:=(oz HS).rs.cell 2;have f0:=(oz HS).rs.frozen 0;have f1:=(oz HS).rs.frozen 1;have f2:=(oz HS).rs.frozen 2;clear HD;go_wp2_with fail
   rw [oz HV];exact XS (v:=wrV (0,0,0)) (jA Tryz.results60 rfl (jG (oz HS).rs _ _ _) rfl) rfl ⟨rfl,zY (oz HS).bl zD (oz HS).bl.size _ _ _⟩
end Go.Proofs.YthchopdfmchpkaaGreat
