/- Texts of this claim, one behind the other. -/
import Derived.Test.YthchopdfmchpkaaGreatM18
namespace Go.Proofs.YthchopdfmchpkaaGreat
set_option linter.unusedVariables false
section
open Go.RowKit Go.Shelf Go.Maps
set_option maxRecDepth 100000
set_option maxHeartbeats 8000000
noncomputable def reg16:Code:=match Tryz.f59.body with
 | some (.seq _ (.seq _ (.seq _ (.seq _ (.seq (.seq _ (.block _ (.loop (.seq _ (.seq _ (.seq (.block _ (.seq _ (.seq _ r))) _)))))) _))))) =>r
 | _ =>.skip
theorem PaAt.kept {w w':World} {M n N:Nat} {zs:List (Int × Int × Int)} (h:PaAt w M n zs) (hg:w.grownBy w' (some N)) (hne:M≠N):PaAt w' M n zs:=by
 obtain ⟨G,h1,h2⟩:=h.mp;exact ⟨G,h1.kept hg (fun e =>hne (Zo e)),h2⟩
theorem JoAt.kept {w w':World} {M n N:Nat} {zs:List (Int × Int × Int)} (h:JoAt w M n zs) (hg:w.grownBy w' (some N)) (hne:M≠N):JoAt w' M n zs:=by
 obtain ⟨G,h1,h2⟩:=h.mp;exact ⟨G,h1.kept hg (fun e =>hne (Zo e)),h2⟩
def EnP (w:World) (M k:Nat) (zs:List (Int × Int × Int)) (x:Int × Int × Int) (st:Nat):Prop := ∀ w2:World,w2.heap[M]?=w.heap[M]?→∃ w3,(Instr.entryStore 150 (.map (some M)) (goInt st) (.agg #[.int .i32 x.2.1,.int .i32 x.2.2])).run Tryz.prog w2=.ok () w3∧PaAt w3 M (k+1) (zs++[x])∧w2.grownBy w3 (some M)
def EnJ (w:World) (M k:Nat) (zs:List (Int × Int × Int)) (x:Int × Int × Int) (st:Nat):Prop := ∀ w2:World,w2.heap[M]?=w.heap[M]?→∃ w3,(Instr.entryStore 151 (.map (some M)) (goInt st) (.int .i32 x.1)).run Tryz.prog w2=.ok () w3∧JoAt w3 M (k+1) (zs++[x])∧w2.grownBy w3 (some M)
theorem zcW (u:World):(zeroValue 157).run Tryz.prog u=.ok (.agg #[.int .i32 0,.int .i32 0]) u:=by kernel_rfl
theorem zgJ (u:World):(zeroValue 21).run Tryz.prog u=.ok (.int .i32 0) u:=by kernel_rfl
theorem PaAt.entry {w:World} {M k:Nat} {zs:List (Int × Int × Int)} {x:Int × Int × Int} (h:PaAt w M k zs) (hk:k≤1000000) (hx:R32 x.1):∃ (v0:Value) (st:Nat) (w1:World),(Instr.mapEntry 150 (.map (some M)) (.int .i32 x.1)).run Tryz.prog w=.ok (.tuple #[v0,goInt st]) w1∧w.grownBy w1 (some M)∧EnP w1 M k zs x st:=by
 obtain ⟨G,hm,hg⟩:=h.mp;obtain ⟨v0,st,w1,h1,h2,h3⟩:=hm.entry (int_keyed Tryz.underlying21) Tryz.underlying150 (by unfold maxLen;omega) zcW (keyOf_int_mk Tryz.underlying21 (JU hx));refine ⟨v0,st,w1,h1,h2,fun w2 e2 =>?_⟩;obtain ⟨w3,h4,h5,h6⟩:=h3 w2 _ _ _ e2 (KI x.2.1 x.2.2);exact ⟨w3,h4,⟨_,h5,hg.put⟩,h6⟩
theorem JoAt.entry {w:World} {M k:Nat} {zs:List (Int × Int × Int)} {x:Int × Int × Int} (h:JoAt w M k zs) (hk:k≤1000000) (hx1:R32 x.1) (hx2:R32 x.2.1) (hx3:R32 x.2.2):∃ (v0:Value) (st:Nat) (w1:World),(Instr.mapEntry 151 (.map (some M)) (.agg #[.int .i32 x.2.1,.int .i32 x.2.2])).run Tryz.prog w=.ok (.tuple #[v0,goInt st]) w1∧w.grownBy w1 (some M)∧EnJ w1 M k zs x st:=by
 obtain ⟨G,hm,hg⟩:=h.mp;have hkey:=WideMaps.keyOf_pair zjH Tryz.underlying21 Qd (JU hx2) (JU hx3);obtain ⟨v0,st,w1,h1,h2,h3⟩:=hm.entry arr_keyed Tryz.underlying151 (by unfold maxLen;omega) zgJ hkey;refine ⟨v0,st,w1,h1,h2,fun w2 e2 =>?_⟩;obtain ⟨w3,h4,h5,h6⟩:=h3 w2 _ _ _ e2 (plainElem_int (H:=Unit) Tryz.underlying21 (a:=x.1) (JU hx1));exact ⟨w3,h4,⟨_,h5,hg.put hkey⟩,h6⟩
structure XtS (M6 M7 k:Nat) (zs:List (Int × Int × Int)) (x:Int × Int × Int) (l:Array Bool) (U:Nat→Value) (w:World):Prop where
 c14:l.getD 14 false=false→l.getD 15 false=false
 c15:l.getD 15 false=false→l.getD 16 false=false
 c16:l.getD 16 false=false→l.getD 17 false=false
 c17:l.getD 17 false=false→l.getD 18 false=false
 a0:l.getD 14 false=false→PaAt w M6 k zs
 a1:l.getD 14 false=true→l.getD 16 false=false→∃ (v0:Value) (st:Nat),U 14=.tuple #[v0,goInt st]∧(l.getD 15 false=true→U 15=goInt st)∧EnP w M6 k zs x st
 a2:l.getD 16 false=true→PaAt w M6 (k+1) (zs++[x])
 b0:l.getD 17 false=false→JoAt w M7 k zs
 b1:l.getD 17 false=true→∃ (v0:Value) (st:Nat),U 17=.tuple #[v0,goInt st]∧(l.getD 18 false=true→U 18=goInt st)∧EnJ w M7 k zs x st
theorem XtS.pure {M6 M7 k:Nat} {zs:List (Int × Int × Int)} {x:Int × Int × Int} {l:Array Bool} {U:Nat→Value} {w:World} (h:XtS M6 M7 k zs x l U w) (i:Nat) (hi:i < 14) (v:Value):XtS M6 M7 k zs x (l.setIfInBounds i true) (za U i v) w:=by
 have g:∀ j,14≤j→(l.setIfInBounds i true).getD j false=l.getD j false:=fun j hj =>getD_set_ne false (by omega)
 have s:∀ j,14≤j→za U i v j=U j:=fun j hj =>yI _ _ (by omega)
 refine ⟨?_, ?_, ?_, ?_, ?_, ?_, ?_, ?_, ?_⟩ <;> rw [g _ (by omega)]
 ·rw [g _ (by omega)];exact h.c14
 ·rw [g _ (by omega)];exact h.c15
 ·rw [g _ (by omega)];exact h.c16
 ·rw [g _ (by omega)];exact h.c17
 ·exact h.a0
 ·rw [g _ (by omega),g _ (by omega),s _ (by omega),s _ (by omega)];exact h.a1
 ·exact h.a2
 ·exact h.b0
 ·rw [g _ (by omega),s _ (by omega),s _ (by omega)];exact h.b1
theorem Xl {l:Array Bool} {i:Nat} (h:i < l.size):(l.setIfInBounds i true).getD i false=true:=by simp [h]
def paD (B Pb Qb M6 M7:Nat) (x1 x2 x3:Int):Nat→Value→World→Prop
 | 0,v,w =>v=.pointer (some ⟨B,0,none⟩)
 | 1,v,w =>v=.pointer (some ⟨B,0,none⟩)
 | 2,v,w =>v=.pointer (some ⟨B,13,none⟩)
 | 3,v,w =>v=.map (some M6)
 | 4,v,w =>v=.pointer (some ⟨Pb,0,none⟩)
 | 5,v,w =>v=.int .i32 x1
 | 6,v,w =>v=.pointer (some ⟨B,0,none⟩)
 | 7,v,w =>v=.pointer (some ⟨B,0,none⟩)
 | 8,v,w =>v=.pointer (some ⟨B,14,none⟩)
 | 9,v,w =>v=.map (some M7)
 | 10,v,w =>v=.agg #[.int .i32 x2,.int .i32 x3]
 | 11,v,w =>v=.agg #[.int .i32 x2,.int .i32 x3]
 | 12,v,w =>v=.pointer (some ⟨Pb,0,none⟩)
 | 13,v,w =>v=.int .i32 x1
 | _,v,w =>True
theorem zeN {B Pb Qb M6 M7:Nat} {x1 x2 x3:Int} {w w':World}:∀ (j:Nat) (v:Value),paD B Pb Qb M6 M7 x1 x2 x3 j v w→paD B Pb Qb M6 M7 x1 x2 x3 j v w'
 | 0,v,h =>h
 | 1,v,h =>h
 | 2,v,h =>h
 | 3,v,h =>h
 | 4,v,h =>h
 | 5,v,h =>h
 | 6,v,h =>h
 | 7,v,h =>h
 | 8,v,h =>h
 | 9,v,h =>h
 | 10,v,h =>h
 | 11,v,h =>h
 | 12,v,h =>h
 | 13,v,h =>h
 | _+14,v,h =>trivial
theorem Jf {w w':World} {M A B:Nat} (hg:w.grownBy w' (some M)) (h:M=A∨M=B):KeptX (fun g =>g=A∨g=B) w w':=⟨hg.os,hg.tape,hg.output,hg.size,fun x hx hn =>hg.block x hx (fun e =>hn (by have:=Zo e;subst this;exact h))⟩
theorem zbo (a b:Value) (w:World):(Instr.extract (.tuple #[a,b]) 1).run Tryz.prog w=.ok b w:=by kernel_rfl
theorem ZN (n i:Nat):(Array.replicate n false).getD i false=false:=by
 rcases Nat.lt_or_ge i n with h' | h' <;> simp [h']
theorem zfM {wb:World} {B Pb Qb M6 M7 k:Nat} {x1 x2 x3:Int} {zs:List (Int × Int × Int)} {z0 z1 z2 z4 z5 z6 z7 z8 z11 z12 z13 z14 z15 z16 z17 z18 z19 z20 z21 z22 z23 z24 z25 z26 z27 z28 z29 z30 z31 z32 z33 z34 z35 z36 z37 z38 z39 z40 z41 z42 z43 z44 z45 z46 z47 z48 z49 z50 z51 z52 z53 z54 z55 z56 z57 z58 z59 z60 z61 z62 z63 z64 z65 z66 z67 z68 z69 z70 z71 z72 z73 z74 z75 z76 z77 z78 z79 z80 z81 z82 z83 z84 z85 z86 z87 z88 z89 z90 z91 z92 z93 z94 z95 z96 z97 z98 z99 z100:Value} {Q:Exit→Act→World→Prop} (hmx:Tryz.prog.follows .mixedOrders=true)
  (HF:Hz (∀ w2,KeptX (fun g =>g=M6∨g=M7) wb.drew w2→w2.cell? ⟨Pb,0,none⟩=some (.int .i32 x1)∧w2.cell? ⟨Qb,0,none⟩=some (.int .i32 x2)∧w2.cell? ⟨Qb,1,none⟩=some (.int .i32 x3)∧w2.cell? ⟨B,13,none⟩=some (.map (some M6))∧w2.cell? ⟨B,14,none⟩=some (.map (some M7))))
  (HX:Hz (R32 x1∧R32 x2∧R32 x3∧k≤1000000∧M6≠M7∧PaAt wb.drew M6 k zs∧JoAt wb.drew M7 k zs))
  (hQ:∀ (U:Nat→Value) (wn:World),Hz (PaAt wn M6 (k+1) (zs++[(x1,x2,x3)])∧JoAt wn M7 (k+1) (zs++[(x1,x2,x3)])∧KeptX (fun g =>g=M6∨g=M7) wb.drew wn)→Q .normal { tmps:=#[z0,z1,z2,.pointer (some ⟨B,0,none⟩),z4,z5,z6,z7,z8,.pointer (some ⟨Pb,0,none⟩),.pointer (some ⟨Qb,0,none⟩),z11,z12,z13,z14,z15,z16,z17,z18,z19,z20,z21,z22,z23,z24,z25,z26,z27,z28,z29,z30,z31,z32,z33,z34,z35,z36,z37,z38,z39,z40,z41,z42,z43,z44,z45,z46,z47,z48,z49,z50,z51,z52,z53,z54,z55,z56,z57,z58,z59,z60,z61,z62,z63,z64,z65,z66,z67,z68,z69,z70,z71,z72,z73,z74,z75,z76,z77,z78,z79,z80,U 0,U 1,U 2,U 3,U 4,U 5,U 6,U 7,U 8,U 9,U 10,U 11,U 12,U 13,U 14,U 15,U 17,U 18,z99,z100],defers := [] } wn) :
  Code.wp Tryz.prog reg16 Q { tmps:=#[z0,z1,z2,.pointer (some ⟨B,0,none⟩),z4,z5,z6,z7,z8,.pointer (some ⟨Pb,0,none⟩),.pointer (some ⟨Qb,0,none⟩),z11,z12,z13,z14,z15,z16,z17,z18,z19,z20,z21,z22,z23,z24,z25,z26,z27,z28,z29,z30,z31,z32,z33,z34,z35,z36,z37,z38,z39,z40,z41,z42,z43,z44,z45,z46,z47,z48,z49,z50,z51,z52,z53,z54,z55,z56,z57,z58,z59,z60,z61,z62,z63,z64,z65,z66,z67,z68,z69,z70,z71,z72,z73,z74,z75,z76,z77,z78,z79,z80,z81,z82,z83,z84,z85,z86,z87,z88,z89,z90,z91,z92,z93,z94,z95,z96,z97,z98,z99,z100],defers := [] } wb:=by
 have HQ:=kz hQ;clear hQ
 delta reg16 Tryz.f59
 dsimp only;refine zn hmx 19 (by decide) (by kernel_rfl) (by kernel_rfl) (fun l a wv => ∃ U:Nat→Value,a = { tmps:=#[z0,z1,z2,.pointer (some ⟨B,0,none⟩),z4,z5,z6,z7,z8,.pointer (some ⟨Pb,0,none⟩),.pointer (some ⟨Qb,0,none⟩),z11,z12,z13,z14,z15,z16,z17,z18,z19,z20,z21,z22,z23,z24,z25,z26,z27,z28,z29,z30,z31,z32,z33,z34,z35,z36,z37,z38,z39,z40,z41,z42,z43,z44,z45,z46,z47,z48,z49,z50,z51,z52,z53,z54,z55,z56,z57,z58,z59,z60,z61,z62,z63,z64,z65,z66,z67,z68,z69,z70,z71,z72,z73,z74,z75,z76,z77,z78,z79,z80,U 0,U 1,U 2,U 3,U 4,U 5,U 6,U 7,U 8,U 9,U 10,U 11,U 12,U 13,U 14,U 15,U 17,U 18,z99,z100],defers := [] }∧RgX wb.drew (fun g =>g=M6∨g=M7) (paD B Pb Qb M6 M7 x1 x2 x3) l U wv∧XtS M6 M7 k zs (x1,x2,x3) l U wv) ⟨fun x =>match x with | 0 =>z81 | 1 =>z82 | 2 =>z83 | 3 =>z84 | 4 =>z85 | 5 =>z86 | 6 =>z87 | 7 =>z88 | 8 =>z89 | 9 =>z90 | 10 =>z91 | 11 =>z92 | 12 =>z93 | 13 =>z94 | 14 =>z95 | 15 =>z96 | 17 =>z97 | 18 =>z98 | _ =>undef,rfl,RgX.start _ _,⟨fun _ =>ZN _ _,fun _ =>ZN _ _,fun _ =>ZN _ _,fun _ =>ZN _ _,fun _ =>(oz HX).2.2.2.2.2.1,fun h =>by (rw [ZN] at h;cases h),fun h =>by (rw [ZN] at h;cases h),fun _ =>(oz HX).2.2.2.2.2.2,fun h =>by (rw [ZN] at h;cases h)⟩⟩ ?_ ?_
 ·rintro l a wv i ⟨U,rfl,hJ,hE⟩ hl hi hif;have h0:=(mem_ready.1 hi).1;have hlt:=Xo hl h0;have HJ:=kz hJ;have HE:=kz hE;have hl':l.size=20:=hl;have HL:=kz hl';clear hJ hE hl hl'
  replace hlt:i < 20:=hlt
  obtain rfl | rfl | rfl | rfl | rfl | rfl | rfl | rfl | rfl | rfl | rfl | rfl | rfl | rfl | rfl | rfl | rfl | rfl | rfl:i=0∨i=1∨i=2∨i=3∨i=4∨i=5∨i=6∨i=7∨i=8∨i=9∨i=10∨i=11∨i=12∨i=13∨i=14∨i=15∨i=16∨i=17∨i=18:=by omega
  any_goals refine Ky rfl (fun K hK =>?_)
  ·clear hlt hif;go_simp;exact hK _ _ ⟨za U 0 _,rfl,(oz HJ).same 0 _ rfl,(oz HE).pure 0 (by decide) _⟩
  ·clear hlt hif;have d0:U 0=.pointer (some ⟨B,0,none⟩):=(oz HJ).val 0 (zb hi 0 (by kernel_rfl));go_simp;exact hK _ _ ⟨za U 1 _,(by rw [zc d0];rfl),(oz HJ).same 1 _ rfl,(oz HE).pure 1 (by decide) _⟩
  ·clear hlt hif;have d1:U 1=.pointer (some ⟨B,0,none⟩):=(oz HJ).val 1 (zb hi 1 (by kernel_rfl));go_simp;exact hK _ _ ⟨za U 2 _,(by rw [zc d1];rfl),(oz HJ).same 2 _ rfl,(oz HE).pure 2 (by decide) _⟩
  ·clear hlt hif;have d2:U 2=.pointer (some ⟨B,13,none⟩):=(oz HJ).val 2 (zb hi 2 (by kernel_rfl));have q6:=(oz HF wv (oz HJ).kp).2.2.2.1;go_simp;exact hK _ _ ⟨za U 3 _,(by rw [zc d2];rfl),(oz HJ).same 3 _ rfl,(oz HE).pure 3 (by decide) _⟩
  ·clear hlt hif;go_simp;exact hK _ _ ⟨za U 4 _,rfl,(oz HJ).same 4 _ rfl,(oz HE).pure 4 (by decide) _⟩
  ·clear hlt hif;have d4:U 4=.pointer (some ⟨Pb,0,none⟩):=(oz HJ).val 4 (zb hi 4 (by kernel_rfl));have q0:=(oz HF wv (oz HJ).kp).1;go_simp;exact hK _ _ ⟨za U 5 _,(by rw [zc d4];rfl),(oz HJ).same 5 _ rfl,(oz HE).pure 5 (by decide) _⟩
  ·clear hlt hif;go_simp;exact hK _ _ ⟨za U 6 _,rfl,(oz HJ).same 6 _ rfl,(oz HE).pure 6 (by decide) _⟩
  ·clear hlt hif;have d6:U 6=.pointer (some ⟨B,0,none⟩):=(oz HJ).val 6 (zb hi 6 (by kernel_rfl));go_simp;exact hK _ _ ⟨za U 7 _,(by rw [zc d6];rfl),(oz HJ).same 7 _ rfl,(oz HE).pure 7 (by decide) _⟩
  ·clear hlt hif;have d7:U 7=.pointer (some ⟨B,0,none⟩):=(oz HJ).val 7 (zb hi 7 (by kernel_rfl));go_simp;exact hK _ _ ⟨za U 8 _,(by rw [zc d7];rfl),(oz HJ).same 8 _ rfl,(oz HE).pure 8 (by decide) _⟩
  ·clear hlt hif;have d8:U 8=.pointer (some ⟨B,14,none⟩):=(oz HJ).val 8 (zb hi 8 (by kernel_rfl));have q7:=(oz HF wv (oz HJ).kp).2.2.2.2;go_simp;exact hK _ _ ⟨za U 9 _,(by rw [zc d8];rfl),(oz HJ).same 9 _ rfl,(oz HE).pure 9 (by decide) _⟩
  ·clear hlt hif;have q1:=(oz HF wv (oz HJ).kp).2.1;have q2:=(oz HF wv (oz HJ).kp).2.2.1;go_simp;exact hK _ _ ⟨za U 10 _,rfl,(oz HJ).same 10 _ rfl,(oz HE).pure 10 (by decide) _⟩
  ·clear hlt hif;have q1:=(oz HF wv (oz HJ).kp).2.1;have q2:=(oz HF wv (oz HJ).kp).2.2.1;go_simp;exact hK _ _ ⟨za U 11 _,rfl,(oz HJ).same 11 _ rfl,(oz HE).pure 11 (by decide) _⟩
  ·clear hlt hif;go_simp;exact hK _ _ ⟨za U 12 _,rfl,(oz HJ).same 12 _ rfl,(oz HE).pure 12 (by decide) _⟩
  ·clear hlt hif;have d12:U 12=.pointer (some ⟨Pb,0,none⟩):=(oz HJ).val 12 (zb hi 12 (by kernel_rfl));have q0:=(oz HF wv (oz HJ).kp).1;go_simp;exact hK _ _ ⟨za U 13 _,(by rw [zc d12];rfl),(oz HJ).same 13 _ rfl,(oz HE).pure 13 (by decide) _⟩
  ·clear hlt hif;have d3:U 3=.map (some M6):=(oz HJ).val 3 (zb hi 3 (by kernel_rfl));have d5:U 5=.int .i32 x1:=(oz HJ).val 5 (zb hi 5 (by kernel_rfl));have n14:l.getD 14 false=false:=by rw [← q9 (by rw [oz HL];decide)];exact h0
   have n15:=(oz HE).c14 n14;have n16:=(oz HE).c15 n15;have n17:=(oz HE).c16 n16;obtain ⟨v0,st,w1,hr,hg,hen⟩:=((oz HE).a0 n14).entry (x:=(x1,x2,x3)) (oz HX).2.2.2.1 (oz HX).1;dsimp only at hr;have HR:=kz (yB hg hen);clear hg hen;have HN:=kz (yB n15 (yB n16 n17));clear n15 n16 n17;go_simp;obtain ⟨n15,n16,n17⟩:=oz HN;refine hK _ _ ⟨za U 14 (.tuple #[v0,goInt st]),(by rw [zc d3,zc d5];rfl),(oz HJ).put 14 _ (Jf (oz HR).1 (.inl rfl)) (fun j _ _ hD =>zeN j _ hD) trivial, ?_⟩;refine ⟨fun h =>?_,fun _ =>by rw [getD_set_ne false (show (14:Nat)≠16 by decide)];exact n16,fun _ =>by rw [getD_set_ne false (show (14:Nat)≠17 by decide)];exact n17,fun _ =>by rw [getD_set_ne false (show (14:Nat)≠18 by decide)];exact (oz HE).c17 n17,fun h =>?_,fun _ _ =>⟨v0,st,yE _ _ _,fun h =>?_,(oz HR).2⟩,fun h =>?_,fun _ =>((oz HE).b0 n17).kept (oz HR).1 (oz HX).2.2.2.2.1.symm,fun h =>?_⟩
   ·rw [Xl (by rw [oz HL];decide)] at h;cases h
   ·rw [Xl (by rw [oz HL];decide)] at h;cases h
   ·rw [getD_set_ne false (show (14:Nat)≠15 by decide),n15] at h;cases h
   ·rw [getD_set_ne false (show (14:Nat)≠16 by decide),n16] at h;cases h
   ·rw [getD_set_ne false (show (14:Nat)≠17 by decide),n17] at h;cases h
  ·clear hlt hif;have n15:l.getD 15 false=false:=by rw [← q9 (by rw [oz HL];decide)];exact h0
   have l14:=zb hi 14 (by kernel_rfl);have n16:=(oz HE).c15 n15;have n17:=(oz HE).c16 n16;obtain ⟨v0,st,d14,_,hen⟩:=(oz HE).a1 l14 n16;have HR:=kz hen;clear hen;have hx1:=zbo v0 (goInt st) wv;have HN:=kz (yB l14 (yB n16 n17));clear l14 n16 n17;go_simp;obtain ⟨l14,n16,n17⟩:=oz HN;refine hK _ _ ⟨za U 15 (goInt st),(by rw [zc d14];rfl),(oz HJ).same 15 _ trivial, ?_⟩;refine ⟨fun h =>?_,fun h =>?_,fun _ =>by rw [getD_set_ne false (show (15:Nat)≠17 by decide)];exact n17,fun _ =>by rw [getD_set_ne false (show (15:Nat)≠18 by decide)];exact (oz HE).c17 n17,fun h =>?_,fun _ _ =>⟨v0,st,(by rw [yI _ _ (show (14:Nat)≠15 by decide)];exact d14),fun _ =>yE _ _ _,oz HR⟩,fun h =>?_,fun _ =>(oz HE).b0 n17,fun h =>?_⟩
   ·rw [getD_set_ne false (show (15:Nat)≠14 by decide),l14] at h;cases h
   ·rw [Xl (by rw [oz HL];decide)] at h;cases h
   ·rw [getD_set_ne false (show (15:Nat)≠14 by decide),l14] at h;cases h
   ·rw [getD_set_ne false (show (15:Nat)≠16 by decide),n16] at h;cases h
   ·rw [getD_set_ne false (show (15:Nat)≠17 by decide),n17] at h;cases h
  ·clear hlt hif;have d3:U 3=.map (some M6):=(oz HJ).val 3 (zb hi 3 (by kernel_rfl));have d11:U 11=.agg #[.int .i32 x2,.int .i32 x3]:=(oz HJ).val 11 (zb hi 11 (by kernel_rfl));have n16:l.getD 16 false=false:=by rw [← q9 (by rw [oz HL];decide)];exact h0
   have l14:=zb hi 14 (by kernel_rfl);have l15:=zb hi 15 (by kernel_rfl);have n17:=(oz HE).c16 n16;obtain ⟨v0,st,d14,d15,hen⟩:=(oz HE).a1 l14 n16;have d15:U 15=.int .i64 (st:Int):=d15 l15;obtain ⟨w3,hr,hpa,hg⟩:=hen wv rfl;unfold goInt at hr;dsimp only at hr;have HR:=kz (yB hpa hg);clear hpa hg hen d14;have HN:=kz (yB l14 (yB l15 n17));clear l14 l15 n17;go_simp;obtain ⟨l14,l15,n17⟩:=oz HN;refine hK _ _ ⟨za U 16 undef,(by rw [zc d3,zc d11,zc d15];rfl),(oz HJ).put 16 _ (Jf (oz HR).2 (.inl rfl)) (fun j _ _ hD =>zeN j _ hD) trivial, ?_⟩;refine ⟨fun h =>?_,fun h =>?_,fun h =>?_,fun _ =>by rw [getD_set_ne false (show (16:Nat)≠18 by decide)];exact (oz HE).c17 n17,fun h =>?_,fun _ h =>?_,fun _ =>(oz HR).1,fun _ =>((oz HE).b0 n17).kept (oz HR).2 (oz HX).2.2.2.2.1.symm,fun h =>?_⟩
   ·rw [getD_set_ne false (show (16:Nat)≠14 by decide),l14] at h;cases h
   ·rw [getD_set_ne false (show (16:Nat)≠15 by decide),l15] at h;cases h
   ·rw [Xl (by rw [oz HL];decide)] at h;cases h
   ·rw [getD_set_ne false (show (16:Nat)≠14 by decide),l14] at h;cases h
   ·rw [Xl (by rw [oz HL];decide)] at h;cases h
   ·rw [getD_set_ne false (show (16:Nat)≠17 by decide),n17] at h;cases h
  ·clear hlt hif;have d9:U 9=.map (some M7):=(oz HJ).val 9 (zb hi 9 (by kernel_rfl));have d10:U 10=.agg #[.int .i32 x2,.int .i32 x3]:=(oz HJ).val 10 (zb hi 10 (by kernel_rfl));have n17:l.getD 17 false=false:=by rw [← q9 (by rw [oz HL];decide)];exact h0
   have l16:=zb hi 16 (by kernel_rfl);have n18:=(oz HE).c17 n17;obtain ⟨v0,st,w1,hr,hg,hen⟩:=((oz HE).b0 n17).entry (x:=(x1,x2,x3)) (oz HX).2.2.2.1 (oz HX).1 (oz HX).2.1 (oz HX).2.2.1;dsimp only at hr;have HR:=kz (yB hg hen);clear hg hen;have HN:=kz (yB l16 n18);clear l16 n18;go_simp;obtain ⟨l16,n18⟩:=oz HN;have c16:l.getD 16 false=true:=l16;refine hK _ _ ⟨za U 17 (.tuple #[v0,goInt st]),(by rw [zc d9,zc d10];rfl),(oz HJ).put 17 _ (Jf (oz HR).1 (.inr rfl)) (fun j _ _ hD =>zeN j _ hD) trivial, ?_⟩;have g:∀ j,j≠17→(l.setIfInBounds 17 true).getD j false=l.getD j false:=fun j hj =>getD_set_ne false (Ne.symm hj)
   refine ⟨fun h =>?_,fun h =>?_,fun h =>?_,fun h =>?_,fun h =>?_,fun _ h =>?_,fun _ =>((oz HE).a2 l16).kept (oz HR).1 (oz HX).2.2.2.2.1,fun h =>?_,fun _ =>⟨v0,st,yE _ _ _,fun h =>?_,(oz HR).2⟩⟩
   ·rw [g 14 (by decide)] at h;rw [g 15 (by decide)];exact (oz HE).c14 h
   ·rw [g 15 (by decide)] at h;rw [g 16 (by decide)];exact (oz HE).c15 h
   ·rw [g 16 (by decide),l16] at h;cases h
   ·rw [Xl (by rw [oz HL];decide)] at h;cases h
   ·rw [g 14 (by decide)] at h;exact absurd ((oz HE).c15 ((oz HE).c14 h)) (by rw [l16];decide)
   ·rw [g 16 (by decide),l16] at h;cases h
   ·rw [Xl (by rw [oz HL];decide)] at h;cases h
   ·rw [g 18 (by decide),n18] at h;cases h
  ·clear hlt hif;have l17:=zb hi 17 (by kernel_rfl);obtain ⟨v0,st,d17,_,hen⟩:=(oz HE).b1 l17;have HR:=kz hen;clear hen;have hx1:=zbo v0 (goInt st) wv;have HN:=kz l17;clear l17;go_simp;have l17:=oz HN;refine hK _ _ ⟨za U 18 (goInt st),(by rw [zc d17];rfl),(oz HJ).same 18 _ trivial, ?_⟩;have g:∀ j,j≠18→(l.setIfInBounds 18 true).getD j false=l.getD j false:=fun j hj =>getD_set_ne false (Ne.symm hj)
   have l16:l.getD 16 false=true:=by
    cases hq:l.getD 16 false with
    | true =>rfl
    | false =>exact absurd ((oz HE).c16 hq) (by rw [l17];decide)
   refine ⟨fun h =>?_,fun h =>?_,fun h =>?_,fun h =>?_,fun h =>?_,fun _ h =>?_,fun _ =>(oz HE).a2 l16,fun h =>?_,fun _ =>⟨v0,st,(by rw [yI _ _ (show (17:Nat)≠18 by decide)];exact d17),fun _ =>yE _ _ _,oz HR⟩⟩
   ·rw [g 14 (by decide)] at h;rw [g 15 (by decide)];exact (oz HE).c14 h
   ·rw [g 15 (by decide)] at h;rw [g 16 (by decide)];exact (oz HE).c15 h
   ·rw [g 16 (by decide),l16] at h;cases h
   ·rw [g 17 (by decide),l17] at h;cases h
   ·rw [g 14 (by decide)] at h;exact absurd ((oz HE).c15 ((oz HE).c14 h)) (by rw [l16];decide)
   ·rw [g 16 (by decide),l16] at h;cases h
   ·rw [g 17 (by decide),l17] at h;cases h
 ·rintro l a wv ⟨U,rfl,hJ,hE⟩ hall;have d9:U 9=.map (some M7):=hJ.val 9 (hall 9 (by decide) (by decide));have d13:U 13=.int .i32 x1:=hJ.val 13 (hall 13 (by decide) (by decide));obtain ⟨v0,st,d17,d18,hen⟩:=hE.b1 (hall 17 (by decide) (by decide));have d18:U 18=.int .i64 (st:Int):=d18 (hall 18 (by decide) (by decide));obtain ⟨w3,hr,hjo,hg⟩:=hen wv rfl;unfold goInt at hr;dsimp only at hr;have HN:Hz (PaAt w3 M6 (k+1) (zs++[(x1,x2,x3)])∧JoAt w3 M7 (k+1) (zs++[(x1,x2,x3)])∧KeptX (fun g =>g=M6∨g=M7) wb.drew w3):=kz ⟨(hE.a2 (hall 16 (by decide) (by decide))).kept hg (oz HX).2.2.2.2.1,hjo,hJ.kp.trans (Jf hg (.inr rfl))⟩;clear hJ hE hall hen hjo hg d17;refine Ky rfl (fun K hK =>?_);go_simp;have e:=oz HQ U _ HN;rw [d9,d13,d18] at e;exact hK _ _ e
set_option maxRecDepth 100000
set_option maxHeartbeats 8000000
noncomputable def tail3:Code:=match Tryz.f59.body with
 | some (.seq _ (.seq _ (.seq _ (.seq _ t)))) =>t
 | _ =>.skip
noncomputable def tail2:Code:=match Tryz.f59.body with
 | some (.seq _ (.seq _ (.seq _ t))) =>t
 | _ =>.skip
theorem PaAt.lt {w:World} {M n:Nat} {zs:List (Int × Int × Int)} (h:PaAt w M n zs):M < w.heap.size:=by
 obtain ⟨G,h1,_⟩:=h.mp;exact h1.lt
theorem JoAt.lt {w:World} {M n:Nat} {zs:List (Int × Int × Int)} (h:JoAt w M n zs):M < w.heap.size:=by
 obtain ⟨G,h1,_⟩:=h.mp;exact h1.lt
theorem zfu (T:TV) (hn:T.pr.length≤1000000) (hz:∀ x ∈ T.pr,R32 x.1∧R32 x.2.1∧R32 x.2.2) {w2:World} {B P lo M6 M7 c3:Nat} {a3:Option Addr} {z0 z2 z4 z5 z6 z7 z8 z9 z10 z11 z12 z13 z14 z15 z16 z17 z18 z19 z20 z21 z22 z23 z24 z25 z26 z27 z28 z29 z30 z31 z32 z33 z34 z35 z36 z37 z38 z39 z40 z41 z42 z43 z44 z45 z46 z47 z48 z49 z50 z51 z52 z53 z54 z55 z56 z57 z58 z59 z60 z61 z62 z63 z64 z65 z66 z67 z68 z69 z70 z71 z72 z73 z74 z75 z76 z77 z78 z79 z80 z81 z82 z83 z84 z85 z86 z87 z88 z89 z90 z91 z92 z93 z94 z95 z96 z97 z98 z99 z100:Value} {Q:Exit→Act→World→Prop} (hmx:Tryz.prog.follows .mixedOrders=true)
  (hP:w2.cell? ⟨P,3,none⟩=some (.slice a3 T.pr.length c3))
  (HR:Hz (RowC w2 lo a3 (Xh T.pr)∧lo≤w2.heap.size∧lo≤M6∧lo≤M7∧M6≠M7∧B < w2.heap.size∧B≠M6∧B≠M7∧w2.cell? ⟨B,13,none⟩=some (.map (some M6))∧w2.cell? ⟨B,14,none⟩=some (.map (some M7))))
  (HM0:Hz (PaAt w2 M6 0 (T.pr.take 0)∧JoAt w2 M7 0 (T.pr.take 0)∧KeptX (fun g =>g=M6∨g=M7) w2 w2))
  (hQ:∀ (a:Act) (wn:World),a.tmps.getD 2 undef=.pointer (some ⟨B,0,none⟩)→a.defers=[]→Hz (PaAt wn M6 T.pr.length T.pr∧JoAt wn M7 T.pr.length T.pr∧KeptX (fun g =>g=M6∨g=M7) w2 wn)→Q .ret a wn) :
  Code.wp Tryz.prog tail3 Q { tmps:=#[z0,.pointer (some ⟨P,0,none⟩),z2,.pointer (some ⟨B,0,none⟩),z4,z5,z6,z7,z8,z9,z10,z11,z12,z13,z14,z15,z16,z17,z18,z19,z20,z21,z22,z23,z24,z25,z26,z27,z28,z29,z30,z31,z32,z33,z34,z35,z36,z37,z38,z39,z40,z41,z42,z43,z44,z45,z46,z47,z48,z49,z50,z51,z52,z53,z54,z55,z56,z57,z58,z59,z60,z61,z62,z63,z64,z65,z66,z67,z68,z69,z70,z71,z72,z73,z74,z75,z76,z77,z78,z79,z80,z81,z82,z83,z84,z85,z86,z87,z88,z89,z90,z91,z92,z93,z94,z95,z96,z97,z98,z99,z100],defers := [] } w2:=by
 have HQ:=kz hQ;have HZ:=kz hz;clear hQ hz
 delta tail3 Tryz.f59
 dsimp only;go_wp2_with fail
 go_loopw [9,10,72] (fun _ _ s72 wr => ∃ k:Nat,k≤T.pr.length∧s72=.int .i64 k∧Hz (PaAt wr M6 k (T.pr.take k)∧JoAt wr M7 k (T.pr.take k)∧KeptX (fun g =>g=M6∨g=M7) w2 wr)) (fun _ _ s72 _ =>T.pr.length - (intOf s72).toNat)
 case atStart =>exact ⟨0,Zn _,rfl,HM0⟩
 case round =>
  obtain ⟨k,hk,rfl,HM⟩:=hrel;clear HM0;by_cases hkn:k < T.pr.length
  ·obtain ⟨x,hx⟩:∃ x,T.pr[k]?=some x:=⟨_,qR hkn⟩;obtain ⟨n0,n1,n2⟩:=Yk T.pr k x hx;obtain ⟨g,q,rfl,hg,hc⟩:=(oz HR).1 (by have:=(Ze.1 n0).1;omega);have hgM:¬ (g=M6∨g=M7):=by have:=(oz HR).2.2.1;have:=(oz HR).2.2.2.1;omega
   have hgw:g < w2.heap.size:=zaY hg (oz HR).2.1;have kc0:wr.cell? ⟨g,q+k*3,none⟩=some (.int .i32 x.1):=((oz HM).2.2.cell (p:=⟨g,q+k*3,none⟩) hgw hgM).trans (hc _ _ n0);have kc1:wr.cell? ⟨g,q+k*3+1,none⟩=some (.int .i32 x.2.1):=((oz HM).2.2.cell (p:=⟨g,q+k*3+1,none⟩) hgw hgM).trans (hc _ _ n1);have kc2:wr.cell? ⟨g,q+k*3+2,none⟩=some (.int .i32 x.2.2):=((oz HM).2.2.cell (p:=⟨g,q+k*3+2,none⟩) hgw hgM).trans (hc _ _ n2);have HKN:Hz (k+1≤T.pr.length):=kz hkn;have HX0:=kz (yB hx (oz HZ x (YH hx)));have hk1:(k:Int) < (T.pr.length:Int):=by omega
   have hk2:=Zp k
   have HKB:Hz (k≤1000000):=kz (by omega);obtain ⟨x1,x2,x3⟩:=x;dsimp only at kc0 kc1 kc2 HX0;have HW:Hz (Below wr.heap.size wr ((wr.alloc (.cells #[.int .i32 x1,.int .i32 x2,.int .i32 x3] 100)).alloc (.cells #[.int .i32 x2,.int .i32 x3] 157)).drew):=kz ((((Below.refl _ wr).alloc zD _).alloc (by simp) _).trans ⟨rfl,rfl,rfl,zD,fun _ _ =>rfl⟩);have bP:Blk ((wr.alloc (.cells #[.int .i32 x1,.int .i32 x2,.int .i32 x3] 100)).alloc (.cells #[.int .i32 x2,.int .i32 x3] 157)).drew wr.heap.size #[.int .i32 x1,.int .i32 x2,.int .i32 x3] 100:=(Blk.new wr _ _).alloc _;have bQ:Blk ((wr.alloc (.cells #[.int .i32 x1,.int .i32 x2,.int .i32 x3] 100)).alloc (.cells #[.int .i32 x2,.int .i32 x3] 157)).drew (wr.heap.size+1) #[.int .i32 x2,.int .i32 x3] 157:=by
    have:=Blk.new (wr.alloc (.cells #[.int .i32 x1,.int .i32 x2,.int .i32 x3] 100)) #[.int .i32 x2,.int .i32 x3] 157;rw [World.size_alloc] at this;exact this
   have HF:Hz (∀ w3,KeptX (fun g =>g=M6∨g=M7) ((wr.alloc (.cells #[.int .i32 x1,.int .i32 x2,.int .i32 x3] 100)).alloc (.cells #[.int .i32 x2,.int .i32 x3] 157)).drew w3→w3.cell? ⟨wr.heap.size,0,none⟩=some (.int .i32 x1)∧w3.cell? ⟨wr.heap.size+1,0,none⟩=some (.int .i32 x2)∧w3.cell? ⟨wr.heap.size+1,1,none⟩=some (.int .i32 x3)∧w3.cell? ⟨B,13,none⟩=some (.map (some M6))∧w3.cell? ⟨B,14,none⟩=some (.map (some M7))):=kz (fun w3 h3 =>by
    have hm6:=(oz HM).1.lt;have hm7:=(oz HM).2.1.lt;obtain ⟨_,_,_,_,_,hB,hB6,hB7,hc6,hc7⟩:=oz HR;have hBr:B < wr.heap.size:=zaY hB (oz HM).2.2.size;have bP3:=h3.blk bP (show ¬ (wr.heap.size=M6∨wr.heap.size=M7) by omega);have bQ3:=h3.blk bQ (show ¬ (wr.heap.size+1=M6∨wr.heap.size+1=M7) by omega);have kB:∀ j,w3.cell? ⟨B,j,none⟩=w2.cell? ⟨B,j,none⟩:=fun j =>(h3.cell (p:=⟨B,j,none⟩) (zaY hBr (oz HW).size) (show ¬ (B=M6∨B=M7) by omega)).trans (((oz HW).cell (p:=⟨B,j,none⟩) hBr).trans ((oz HM).2.2.cell (p:=⟨B,j,none⟩) hB (show ¬ (B=M6∨B=M7) by omega)))
    exact ⟨bP3.cell 0,bQ3.cell 0,bQ3.cell 1,(kB 13).trans hc6,(kB 14).trans hc7⟩)
   have HX:Hz (R32 x1∧R32 x2∧R32 x3∧k≤1000000∧M6≠M7∧PaAt ((wr.alloc (.cells #[.int .i32 x1,.int .i32 x2,.int .i32 x3] 100)).alloc (.cells #[.int .i32 x2,.int .i32 x3] 157)).drew M6 k (T.pr.take k)∧JoAt ((wr.alloc (.cells #[.int .i32 x1,.int .i32 x2,.int .i32 x3] 100)).alloc (.cells #[.int .i32 x2,.int .i32 x3] 157)).drew M7 k (T.pr.take k)):=kz ⟨(oz HX0).2.1,(oz HX0).2.2.1,(oz HX0).2.2.2,oz HKB,(oz HR).2.2.2.2.1,(oz HM).1.below (oz HW),(oz HM).2.1.below (oz HW)⟩;clear hx hc n0 n1 n2 hgM hgw hg bP bQ;go_wp2_with fail
   generalize ((wr.alloc _).alloc _)=wb at *;refine zfM hmx HF HX ?_;intro U wn HN;have hkb:k+1≤1000000:=by have:=oz HKN;omega
   have HN2:Hz (PaAt wn M6 (k+1) (T.pr.take (k+1))∧JoAt wn M7 (k+1) (T.pr.take (k+1))∧KeptX (fun g =>g=M6∨g=M7) w2 wn):=kz (by
    rw [List.take_add_one,(oz HX0).1];exact ⟨(oz HN).1,(oz HN).2.1,((oz HM).2.2.trans (zt (oz HW) _)).trans (oz HN).2.2⟩)
   go_wp2_with fail
   exact ⟨⟨k+1,oz HKN,by go_num,HN2⟩,by have:=oz HKN;simp [intOf];omega⟩
  ·have hk1:¬ (k:Int) < (T.pr.length:Int):=by omega
   have HE:Hz (PaAt wr M6 T.pr.length T.pr∧JoAt wr M7 T.pr.length T.pr∧KeptX (fun g =>g=M6∨g=M7) w2 wr):=kz (by
    obtain rfl:k=T.pr.length:=by omega
    have:=oz HM
    rwa [List.take_of_length_le zD] at this)
   clear HM;go_wp2_with fail
   exact oz HQ _ _ rfl rfl HE
theorem zfv (T:TV) (hn:T.ma.length≤1000000) (hz:∀ x ∈ T.ma,R32 x.1∧-9223372036854775808≤x.2∧x.2≤9223372036854775807) {w2:World} {B P lo M5 c2:Nat} {a2:Option Addr} {z0 z2 z4 z5 z6 z7 z8 z9 z10 z11 z12 z13 z14 z15 z16 z17 z18 z19 z20 z21 z22 z23 z24 z25 z26 z27 z28 z29 z30 z31 z32 z33 z34 z35 z36 z37 z38 z39 z40 z41 z42 z43 z44 z45 z46 z47 z48 z49 z50 z51 z52 z53 z54 z55 z56 z57 z58 z59 z60 z61 z62 z63 z64 z65 z66 z67 z68 z69 z70 z71 z72 z73 z74 z75 z76 z77 z78 z79 z80 z81 z82 z83 z84 z85 z86 z87 z88 z89 z90 z91 z92 z93 z94 z95 z96 z97 z98 z99 z100:Value} {Q:Exit→Act→World→Prop} (hmx:Tryz.prog.follows .mixedOrders=true)
  (hP:w2.cell? ⟨P,2,none⟩=some (.slice a2 T.ma.length c2))
  (HR:Hz (RowC w2 lo a2 (XP T.ma)∧lo≤w2.heap.size∧lo≤M5∧B < w2.heap.size∧B≠M5∧w2.cell? ⟨B,12,none⟩=some (.map (some M5))))
  (HM0:Hz (ClAt w2 M5 0 (T.ma.take 0)∧KeptX (fun g =>g=M5) w2 w2))
  (hQ:∀ (v7 v53 v54 v55 v56 v57 v58 v59 v60 v61 v62 v63 v64 v65 v66 v67 v68:Value) (wn:World),Hz (ClAt wn M5 T.ma.length T.ma∧KeptX (fun g =>g=M5) w2 wn)→Code.wp Tryz.prog tail3 Q { tmps:=#[z0,.pointer (some ⟨P,0,none⟩),z2,.pointer (some ⟨B,0,none⟩),z4,z5,z6,v7,z8,z9,z10,z11,z12,z13,z14,z15,z16,z17,z18,z19,z20,z21,z22,z23,z24,z25,z26,z27,z28,z29,z30,z31,z32,z33,z34,z35,z36,z37,z38,z39,z40,z41,z42,z43,z44,z45,z46,z47,z48,z49,z50,z51,z52,v53,v54,v55,v56,v57,v58,v59,v60,v61,v62,v63,v64,v65,v66,v67,v68,z69,z70,z71,z72,z73,z74,z75,z76,z77,z78,z79,z80,z81,z82,z83,z84,z85,z86,z87,z88,z89,z90,z91,z92,z93,z94,z95,z96,z97,z98,z99,z100],defers := [] } wn) :
  Code.wp Tryz.prog tail2 Q { tmps:=#[z0,.pointer (some ⟨P,0,none⟩),z2,.pointer (some ⟨B,0,none⟩),z4,z5,z6,z7,z8,z9,z10,z11,z12,z13,z14,z15,z16,z17,z18,z19,z20,z21,z22,z23,z24,z25,z26,z27,z28,z29,z30,z31,z32,z33,z34,z35,z36,z37,z38,z39,z40,z41,z42,z43,z44,z45,z46,z47,z48,z49,z50,z51,z52,z53,z54,z55,z56,z57,z58,z59,z60,z61,z62,z63,z64,z65,z66,z67,z68,z69,z70,z71,z72,z73,z74,z75,z76,z77,z78,z79,z80,z81,z82,z83,z84,z85,z86,z87,z88,z89,z90,z91,z92,z93,z94,z95,z96,z97,z98,z99,z100],defers := [] } w2:=by
 have HQ:=kz hQ;have HZ:=kz hz;clear hQ hz
 delta tail2 Tryz.f59
 dsimp only;refine wp_seq_k (fun K hK =>?_);have HK:=kz hK;clear hK;go_wp2_with fail
 go_loopw [7,56] (fun _ s56 wr => ∃ k:Nat,k≤T.ma.length∧s56=.int .i64 k∧Hz (ClAt wr M5 k (T.ma.take k)∧KeptX (fun g =>g=M5) w2 wr)) (fun _ s56 _ =>T.ma.length - (intOf s56).toNat)
 case atStart =>exact ⟨0,Zn _,rfl,HM0⟩
 case round =>
  obtain ⟨k,hk,rfl,HM⟩:=hrel;clear HM0;by_cases hkn:k < T.ma.length
  ·obtain ⟨x,hx⟩:∃ x,T.ma[k]?=some x:=⟨_,qR hkn⟩;obtain ⟨n0,n1⟩:=Qr T.ma k x hx;obtain ⟨g,q,rfl,hg,hc⟩:=(oz HR).1 (by have:=(Ze.1 n0).1;omega);have hgM:¬ g=M5:=by have:=(oz HR).2.2.1;omega
   have hgw:g < w2.heap.size:=zaY hg (oz HR).2.1;have kc0:wr.cell? ⟨g,q+k*2,none⟩=some (.int .i32 x.1):=((oz HM).2.cell (p:=⟨g,q+k*2,none⟩) hgw hgM).trans (hc _ _ n0);have kc1:wr.cell? ⟨g,q+k*2+1,none⟩=some (.int .i64 x.2):=((oz HM).2.cell (p:=⟨g,q+k*2+1,none⟩) hgw hgM).trans (hc _ _ n1);have HKN:Hz (k+1≤T.ma.length):=kz hkn;have HX0:=kz hx;have HX:=kz (yB (oz HZ x (YH hx)).1 (yB (oz HZ x (YH hx)).2.1 (yB (oz HZ x (YH hx)).2.2 (show k≤1000000 by omega))));have hk1:(k:Int) < (T.ma.length:Int):=by omega
   have hk2:=Zp k
   obtain ⟨m1,m2⟩:=x;dsimp only at kc0 kc1 HX HX0;have HB2:Hz (Below wr.heap.size wr (wr.alloc (.cells #[.int .i32 m1,.int .i64 m2] 98)).drew):=kz (((Below.refl _ wr).alloc zD _).trans ⟨rfl,rfl,rfl,zD,fun _ _ =>rfl⟩);have bM:Blk (wr.alloc (.cells #[.int .i32 m1,.int .i64 m2] 98)).drew wr.heap.size #[.int .i32 m1,.int .i64 m2] 98:=Blk.new wr _ _;have HF:Hz (∀ w3,KeptX (fun _ =>False) (wr.alloc (.cells #[.int .i32 m1,.int .i64 m2] 98)).drew w3→Blk w3 wr.heap.size #[.int .i32 m1,.int .i64 m2] 98∧w3.cell? ⟨B,12,none⟩=some (.map (some M5))∧ClAt w3 M5 k (T.ma.take k)):=kz (fun w3 h3 =>by
    obtain ⟨_,_,_,hB,hB5,hc5⟩:=oz HR;have hBr:B < wr.heap.size:=zaY hB (oz HM).2.size;exact ⟨bM.below h3.below bM.lt,(h3.below.cell (p:=⟨B,12,none⟩) (zaY hBr (oz HB2).size)).trans (((oz HB2).cell (p:=⟨B,12,none⟩) hBr).trans (((oz HM).2.cell (p:=⟨B,12,none⟩) hB hB5).trans hc5)),((oz HM).1.below (oz HB2)).below h3.below⟩)
   clear hx hc n0 n1 hgM hgw hg bM;go_wp2_with fail
   generalize (wr.alloc _)=wb at *;refine zfN hmx HF HX ?_;intro U wn HN;have hkb:k+1≤1000000:=by have:=oz HKN;omega
   have HN2:Hz (ClAt wn M5 (k+1) (T.ma.take (k+1))∧KeptX (fun g =>g=M5) w2 wn):=kz ⟨by rw [List.take_add_one,oz HX0];exact (oz HN).1,((oz HM).2.trans (zt (oz HB2) _)).trans (oz HN).2⟩;go_wp2_with fail
   exact ⟨⟨k+1,oz HKN,by go_num,HN2⟩,by have:=oz HKN;simp [intOf];omega⟩
  ·have hk1:¬ (k:Int) < (T.ma.length:Int):=by omega
   have HE:Hz (ClAt wr M5 T.ma.length T.ma∧KeptX (fun g =>g=M5) w2 wr):=kz (by
    obtain rfl:k=T.ma.length:=by omega
    have:=oz HM
    rwa [List.take_of_length_le zD] at this)
   clear HM;go_wp2_with fail
   exact oz HK _ _ (oz HQ _ _ _ _ _ _ _ _ _ _ _ _ _ _ _ _ _ _ HE)
def XMap (X:Nat→Prop) (w:World):Prop := ∀ g,X g→∃ es c,w.heap[g]?=some (.map es c)
theorem XMap.ty {X:Nat→Prop} {w:World} (h:XMap X w):XTy X w:=fun g hx =>.inr (h g hx)
theorem XMap.ok {X:Nat→Prop} {w:World} (h:XMap X w):XOk X w:=fun g hx =>.inr (h g hx)
theorem XMap.no {X:Nat→Prop} {w:World} (h:XMap X w) {g:Nat} {cur:Array Value} {t:TypeId} (hb:Blk w g cur t):¬ X g:=fun hx =>by
 obtain ⟨es,c,hm⟩:=h g hx;unfold Blk at hb;rw [hb] at hm;injection hm with e;cases e
theorem XMap.row {X:Nat→Prop} {w w':World} (hX:XMap X w) (k:KeptX X w w') {lo E sz n:Nat} {v:Value} {xs:List Value} (h:w.ownsRow lo E sz v n xs):w'.ownsRow lo E sz v n xs:=by
 rcases h.2 with ⟨e,h0⟩ | ⟨g,cap,cur,e,hb,hg,r⟩
 ·exact ⟨h.1,.inl ⟨e,h0⟩⟩
 ·exact ⟨h.1,.inr ⟨g,cap,cur,e,hb,k.blk hg (hX.no hg),r⟩⟩
theorem MpAt.isMap {w:World} {kt:TypeId} {R:Value→Option (DataW Unit × List MemPlace)} {M n:Nat} {G:Lit→Option (DataW Unit)} (h:MpAt w kt R M n G):∃ es c,w.heap[M]?=some (.map es c):=by
 obtain ⟨D,⟨es,clock,hb,r⟩,h2⟩:=h;exact ⟨es,clock,hb⟩
theorem YU {lo:Nat} {W w w':World} {X:Nat→Prop} (h:Below lo W w) (hk:KeptX X w w') (hX:∀ g,X g→lo≤g) (hl:lo≤W.heap.size):Below lo W w' :=
 ⟨hk.os.trans h.os,hk.tape.trans h.tape,hk.output.trans h.output,Nat.le_trans h.size hk.size,fun g hg =>(hk.block g (zaY hg (Nat.le_trans hl h.size)) (fun hx =>by have:=hX g hx;omega)).trans (h.block g hg)⟩
theorem FoAt.keptB {w w':World} {B M n:Nat} {zs:List (Int × ByteArray)} {cur:Array Value} {t:TypeId} (h:FoAt w M n zs) (k:KeptX (fun g =>g=B) w w') (hb:Blk w B cur t) (hc:∀ q y,cur[0]?≠some (.int q y)):FoAt w' M n zs:=by
 obtain ⟨G,h1,h2⟩:=h.mp;refine ⟨G,k.mp h1 (XB h1 hb),fun r hr =>?_⟩;rcases h2 r hr with h3 | ⟨x,hx,e,g,c,h4,h5,h6⟩
 ·exact .inl h3
 ·refine .inr ⟨x,hx,e,g,c,h4,h5,zaY h6.1 k.size,fun j y hy =>?_⟩;refine (k.cell (p:=⟨g,j,none⟩) h6.1 (fun e =>?_)).trans (h6.2 j y hy);have e:g=B:=e;subst e;obtain ⟨y0,hy0⟩:∃ y0,(zk x.2)[0]?=some y0:=⟨_,qR (by have:=(Ze.1 hy).1;omega)⟩;have:=h6.2 0 y0 hy0;rw [hb.cell 0] at this;exact hc _ _ this
structure BkA (w:World) (B lo:Nat) (T:TV) (t0 t1 t2 t3 t4 t5 t6 t7 sv:Value) (bs:List Nat) (Bc Bd Ba M5 n5 M6 n6 M7 n7 MF nF ML nL:Nat):Prop where
 bx:Blk w B (zgH t0 t1 t2 t3 t4 t5 t6 t7 sv Bc Bd Ba M5 M6 M7 MF ML) 156
 tb:TabAt w lo T (.agg #[t0,t1,t2,t3,t4,t5,t6,t7])
 len:bs.length=T.sc.length
 row:w.ownsRow lo 147 1 sv T.sc.length (bs.map zaD)
 sets:∀ (j:Nat) (s:ByteArray × List (Int × Int)) (b:Nat),T.sc[j]?=some s→bs[j]?=some b→SetV w s.2 b
 co:SetV w T.co Bc
 dr:SetV w T.dr Bd
 al:SetV w T.al Ba
 cl:ClAt w M5 n5 T.ma
 pa:PaAt w M6 n6 T.pr
 jo:JoAt w M7 n7 T.pr
 fo:FoAt w MF nF T.fo
 lk:FoAt w ML nL T.lk
theorem BkA.below {w w':World} {B lo:Nat} {T:TV} {t0 t1 t2 t3 t4 t5 t6 t7 sv:Value} {bs:List Nat} {Bc Bd Ba M5 n5 M6 n6 M7 n7 MF nF ML nL:Nat} (h:BkA w B lo T t0 t1 t2 t3 t4 t5 t6 t7 sv bs Bc Bd Ba M5 n5 M6 n6 M7 n7 MF nF ML nL) (hb:Below w.heap.size w w'):BkA w' B lo T t0 t1 t2 t3 t4 t5 t6 t7 sv bs Bc Bd Ba M5 n5 M6 n6 M7 n7 MF nF ML nL :=
 ⟨h.bx.below hb h.bx.lt,h.tb.below hb,h.len,zu h.row hb,fun j s b h1 h2 =>(h.sets j s b h1 h2).below hb,h.co.below hb,h.dr.below hb,h.al.below hb,h.cl.below hb,h.pa.below hb,h.jo.below hb,h.fo.below hb,h.lk.below hb⟩
def BookAt (w:World) (B:Nat) (T:TV):Prop := ∃ lo t0 t1 t2 t3 t4 t5 t6 t7 sv bs Bc Bd Ba M5 n5 M6 n6 M7 n7 MF nF ML nL,BkA w B lo T t0 t1 t2 t3 t4 t5 t6 t7 sv bs Bc Bd Ba M5 n5 M6 n6 M7 n7 MF nF ML nL
theorem BookAt.below {w w':World} {B:Nat} {T:TV} (h:BookAt w B T) (hb:Below w.heap.size w w'):BookAt w' B T:=by
 obtain ⟨lo,t0,t1,t2,t3,t4,t5,t6,t7,sv,bs,Bc,Bd,Ba,M5,n5,M6,n6,M7,n7,MF,nF,ML,nL,h⟩:=h;exact ⟨lo,t0,t1,t2,t3,t4,t5,t6,t7,sv,bs,Bc,Bd,Ba,M5,n5,M6,n6,M7,n7,MF,nF,ML,nL,h.below hb⟩
theorem zfw {w:World} {lo:Nat} {T:TV} {t0 t1 t2 t3 t4 t5 t6 t7:Value} (h:TabAt w lo T (.agg #[t0,t1,t2,t3,t4,t5,t6,t7])):∀ q y,t0≠.int q y:=fun q y e0 =>by
 obtain ⟨v0,us,v1,v2,v3,v4,v5,v6,v7,e,hl,h1⟩:=h;injection e with e;have e:=congrArg (fun l:Array Value =>l[0]?) e;have e:t0=v0:=by simpa using e
 have hr:=h1.own 0 v0 _ rfl rfl;rcases hr.2 with ⟨e1,_⟩ | ⟨g,cap,cur,e1,_⟩
 ·rw [← e,e0] at e1;cases e1
 ·rw [← e,e0] at e1;cases e1
theorem zid {w wr wn wq:World} {B lo:Nat} {T:TV} {t0 t1 t2 t3 t4 t5 t6 t7 sv:Value} {bs:List Nat} {Bc Bd Ba M5 n5 M6 n6 M7 n7 MF nF ML nL:Nat}
  (hK:BkC w lo T t0 t1 t2 t3 t4 t5 t6 t7 Bc Bd Ba M5 M6 M7 MF nF ML nL) (hB:Blk w B (zgH t0 t1 t2 t3 t4 t5 t6 t7 (.slice none 0 0) Bc Bd Ba M5 M6 M7 MF ML) 156) (hlo:lo≤w.heap.size)
  (hS:ScSt w wr B T t0 t1 t2 t3 t4 t5 t6 t7 Bc Bd Ba M5 M6 M7 MF ML T.sc.length sv bs) (h2:ClAt wn M5 n5 T.ma) (k2:KeptX (fun g =>g=M5) wr wn) (h3:PaAt wq M6 n6 T.pr) (h4:JoAt wq M7 n7 T.pr) (k3:KeptX (fun g =>g=M6∨g=M7) wn wq):BookAt wq B T:=by
 have m5:=hK.m5 21 Y5;have m6:=hK.m6 21 Y5;have m7:=hK.m7 21 Y5;have b5:=XB m5 hB;have b6:=XB m6 hB;have b7:=XB m7 hB;have x1:XTy (fun g =>g=B) w:=fun g e =>by
  subst e;exact .inl ⟨_,_,hB,.inl rfl⟩
 have m5r:=hS.kp.mp m5 b5;have x2:XMap (fun g =>g=M5) wr:=fun g e =>by
  subst e;exact m5r.isMap
 have m6n:=k2.mp (hS.kp.mp m6 b6) (fun e =>hK.n56 e.symm);have m7n:=k2.mp (hS.kp.mp m7 b7) (fun e =>hK.n57 e.symm);have x3:XMap (fun g =>g=M6∨g=M7) wn:=fun g e =>by
  rcases e with e | e
  ·subst e;exact m6n.isMap
  ·subst e;exact m7n.isMap
 have sv1:∀ l C,SetV w l C→SetV wq l C:=fun l C h =>x3.ty.setV k3 (x2.ty.setV k2 (x1.setV hS.kp h))
 have hc0:∀ q y,(zgH t0 t1 t2 t3 t4 t5 t6 t7 (.slice none 0 0) Bc Bd Ba M5 M6 M7 MF ML)[0]?≠some (.int q y):=fun q y e =>zfw hK.tb q y (Zo e)
 have fo1:∀ M n l,M≠M5→M≠M6→M≠M7→FoAt w M n l→FoAt wq M n l:=fun M n l q5 q6 q7 h =>x3.ok.fo k3 (x2.ok.fo k2 (h.keptB hS.kp hB hc0) q5) (fun e =>e.elim q6 q7)
 exact ⟨lo, t0, t1, t2, t3, t4, t5, t6, t7, sv, bs, Bc, Bd, Ba, M5, n5, M6, n6, M7, n7, MF, nF, ML, nL,
   { bx := k3.blk (k2.blk hS.bx (fun e => b5 e.symm)) (fun e => e.elim (fun e => b6 e.symm) (fun e => b7 e.symm))
     tb:=x3.ty.tab k3 (x2.ty.tab k2 (x1.tab hS.kp hK.tb))
     len:=hS.len
     row:=x3.row k3 (x2.row k2 (yH hS.row hlo))
     sets:=fun j s b h1 hb =>x3.ty.setV k3 (x2.ty.setV k2 (hS.sets j s b h1 hb))
     co:=sv1 _ _ hK.co
     dr:=sv1 _ _ hK.dr
     al:=sv1 _ _ hK.al
     cl:=by
       obtain ⟨G,g1,g2⟩:=h2.mp;exact ⟨G,k3.mp g1 (fun e =>e.elim hK.n56 hK.n57),g2⟩
     pa:=h3
     jo:=h4
     fo:=fo1 _ _ _ (fun e =>hK.n5F e.symm) (fun e =>hK.n6F e.symm) (fun e =>hK.n7F e.symm) hK.mF
     lk:=fo1 _ _ _ (fun e =>hK.n5L e.symm) (fun e =>hK.n6L e.symm) (fun e =>hK.n7L e.symm) hK.mL }⟩
theorem ze5 {W w:World} {lo:Nat} {a:Option Addr} {zs:List Value} (h:RowC W lo a zs) (hc:∀ g j,g < lo→w.cell? ⟨g,j,none⟩=W.cell? ⟨g,j,none⟩):RowC w lo a zs:=fun h0 =>by
 obtain ⟨g,q,e,hg,h1⟩:=h h0;exact ⟨g,q,e,hg,fun j v hv =>(hc g (q+j) hg).trans (h1 j v hv)⟩
set_option maxRecDepth 100000
set_option maxHeartbeats 8000000
theorem BookAt.cls {w:World} {B:Nat} {T:TV} (h:BookAt w B T):∃ M n,w.cell? ⟨B,12,none⟩=some (.map (some M))∧ClAt w M n T.ma:=by
 obtain ⟨lo,t0,t1,t2,t3,t4,t5,t6,t7,sv,bs,Bc,Bd,Ba,M5,n5,M6,n6,M7,n7,MF,nF,ML,nL,h⟩:=h;exact ⟨M5,n5,h.bx.cell 12,h.cl⟩
theorem BookAt.pas {w:World} {B:Nat} {T:TV} (h:BookAt w B T):∃ M n,w.cell? ⟨B,13,none⟩=some (.map (some M))∧PaAt w M n T.pr:=by
 obtain ⟨lo,t0,t1,t2,t3,t4,t5,t6,t7,sv,bs,Bc,Bd,Ba,M5,n5,M6,n6,M7,n7,MF,nF,ML,nL,h⟩:=h;exact ⟨M6,n6,h.bx.cell 13,h.pa⟩
theorem BookAt.fos {w:World} {B:Nat} {T:TV} (h:BookAt w B T):∃ M n,w.cell? ⟨B,15,none⟩=some (.map (some M))∧FoAt w M n T.fo:=by
 obtain ⟨lo,t0,t1,t2,t3,t4,t5,t6,t7,sv,bs,Bc,Bd,Ba,M5,n5,M6,n6,M7,n7,MF,nF,ML,nL,h⟩:=h;exact ⟨MF,nF,h.bx.cell 15,h.fo⟩
theorem BookAt.lks {w:World} {B:Nat} {T:TV} (h:BookAt w B T):∃ M n,w.cell? ⟨B,16,none⟩=some (.map (some M))∧FoAt w M n T.lk:=by
 obtain ⟨lo,t0,t1,t2,t3,t4,t5,t6,t7,sv,bs,Bc,Bd,Ba,M5,n5,M6,n6,M7,n7,MF,nF,ML,nL,h⟩:=h;exact ⟨ML,nL,h.bx.cell 16,h.lk⟩
theorem BookAt.cos {w:World} {B:Nat} {T:TV} (h:BookAt w B T):∃ C,w.cell? ⟨B,9,none⟩=some (.pointer (some ⟨C,0,none⟩))∧SetV w T.co C:=by
 obtain ⟨lo,t0,t1,t2,t3,t4,t5,t6,t7,sv,bs,Bc,Bd,Ba,M5,n5,M6,n6,M7,n7,MF,nF,ML,nL,h⟩:=h;exact ⟨Bc,h.bx.cell 9,h.co⟩
theorem BookAt.drs {w:World} {B:Nat} {T:TV} (h:BookAt w B T):∃ C,w.cell? ⟨B,10,none⟩=some (.pointer (some ⟨C,0,none⟩))∧SetV w T.dr C:=by
 obtain ⟨lo,t0,t1,t2,t3,t4,t5,t6,t7,sv,bs,Bc,Bd,Ba,M5,n5,M6,n6,M7,n7,MF,nF,ML,nL,h⟩:=h;exact ⟨Bd,h.bx.cell 10,h.dr⟩
theorem BookAt.als {w:World} {B:Nat} {T:TV} (h:BookAt w B T):∃ C,w.cell? ⟨B,11,none⟩=some (.pointer (some ⟨C,0,none⟩))∧SetV w T.al C:=by
 obtain ⟨lo,t0,t1,t2,t3,t4,t5,t6,t7,sv,bs,Bc,Bd,Ba,M5,n5,M6,n6,M7,n7,MF,nF,ML,nL,h⟩:=h;exact ⟨Ba,h.bx.cell 11,h.al⟩
theorem Ja {w:World} {l:List (Int × Int)} {C:Nat} (hl:l.length≤1000000) (h:SetV w l C) (r:Int):Calls Tryz.prog 109 #[.pointer (some ⟨C,0,none⟩),.int .i32 r] w fun e w' =>e=.returned (.bool (zi l r))∧Below w.heap.size w w':=by
 obtain ⟨zs,lo0,h1,h2,h3,h4⟩:=h;have:=zce C zs r w (h1.set h2 (by omega))
 rwa [h4 r] at this
theorem zbK {T:TV} (hO:zx T) (B:Nat) (r:Int) (w:World) (h:BookAt w B T):Calls Tryz.prog 72 #[.pointer (some ⟨B,0,none⟩),.int .i32 r] w fun e w' =>e=.returned (.bool (zi T.co r))∧Below w.heap.size w w':=by
 obtain ⟨C,c0,hs⟩:=h.cos;have HC:=kz (Ja (by have:=hO.l1;omega) hs r);clear hs h hO;go_enter Tryz.func72,Tryz.ntmps72;go_wp2_with fail
 refine (oz HC).mono ?_;rintro e w1 ⟨rfl,hb⟩;have HB:=kz hb;clear hb HC;go_wp2_with fail
 go_ret;exact ⟨rfl,oz HB⟩
theorem JD {T:TV} (hO:zx T) (B:Nat) (r:Int) (w:World) (h:BookAt w B T):Calls Tryz.prog 214 #[.pointer (some ⟨B,0,none⟩),.int .i32 r] w fun e w' =>e=.returned (.bool (drB T r))∧Below w.heap.size w w':=by
 obtain ⟨C,c0,hs⟩:=h.drs;have HC:=kz (Ja (by have:=hO.l6;omega) hs r);clear hs h hO;go_enter Tryz.func214,Tryz.ntmps214;go_wp2_with fail
 refine (oz HC).mono ?_;rintro e w1 ⟨rfl,hb⟩;have HB:=kz hb;clear hb HC;go_wp2_with fail
 go_ret;exact ⟨rfl,oz HB⟩
theorem MpAt.look1 {w:World} {kt mt et:TypeId} {R:Value→Option (DataW Unit × List MemPlace)} {M n:Nat} {G:Lit→Option (DataW Unit)} (h:MpAt w kt R M n G) (K:Keyed Tryz.prog kt) (ht:Tryz.prog.underlying mt=some (.map kt et)) {z:Value} (hz:(zeroValue et).run Tryz.prog w=.ok z w) {zd:DataW Unit} {zp:List MemPlace} (hzd:R z=some (zd,zp)) {key:Value} {k:Lit} (hk:keyOf Tryz.prog kt key=some k) (hkl:WideAt.IsKeyLit k) :
  ∃ v ps,(Instr.lookup mt (.map (some M)) key false).run Tryz.prog w=.ok v w∧R v=some ((G k).getD zd,ps):=by
 obtain ⟨D,h1,h2⟩:=h;obtain ⟨v,ps,hr,hv⟩:=h1.lookup K ht hz hzd hk;rw [(h2 k hkl).2] at hv;exact ⟨v,ps,hr,hv⟩
theorem zgI (u:World):(zeroValue 3).run Tryz.prog u=.ok (.int .i64 0) u:=by kernel_rfl
theorem zgr {T:TV} (hO:zx T) {w:World} {M n:Nat} (h:ClAt w M n T.ma) {r:Int} (hr:R32 r):(Instr.lookup 149 (.map (some M)) (.int .i32 r) false).run Tryz.prog w=.ok (.int .i64 (jF T r)) w:=by
 obtain ⟨G,hm,hg⟩:=h.mp;obtain ⟨v,ps,hl,hv⟩:=hm.look1 (int_keyed Tryz.underlying21) Tryz.underlying149 (zgI w) (plainElem_int Tryz.underlying3 (by decide)) (keyOf_int_mk Tryz.underlying21 (JU hr)) trivial;obtain ⟨a,rfl,ha,_⟩:=plainElem_int_inv Tryz.underlying3 hv;injection ha with ha _;rw [hl];rcases hg r hr with ⟨h1,h2⟩ | ⟨x,hx,rfl,h2⟩
 ·rw [h2] at ha;injection ha with ha;injection ha with _ ha;rw [K9 h1,ha]
 ·rw [h2] at ha;injection ha with ha;injection ha with _ ha;rw [zdq hO hx,ha]
theorem Ya {T:TV} (hO:zx T) (B:Nat) (r:Int) (hr:R32 r) (w:World) (h:BookAt w B T):Calls Tryz.prog 73 #[.pointer (some ⟨B,0,none⟩),.int .i32 r] w fun e w' =>e=.returned (.int .i64 (jF T r))∧w'=w:=by
 obtain ⟨M,n,c0,hs⟩:=h.cls;have hl:=zgr hO hs hr;clear hs h hO hr;go_enter Tryz.func73,Tryz.ntmps73;go_wp2_with fail
 go_ret;exact ⟨rfl,rfl⟩
def zky (x:Option (Int × Int × Int)):Value := .agg #[.int .i32 ((x.map (·.2.1)).getD 0),.int .i32 ((x.map (·.2.2)).getD 0)]
theorem zda {T:TV} (hO:zx T) {w:World} {M n:Nat} (h:PaAt w M n T.pr) {r:Int} (hr:R32 r):(Instr.lookup 150 (.map (some M)) (.int .i32 r) true).run Tryz.prog w=.ok (.tuple #[zky (jI T r),.bool (jI T r).isSome]) w:=by
 obtain ⟨G,hm,hg⟩:=h.mp;obtain ⟨v,ps,hl,hv⟩:=hm.look (int_keyed Tryz.underlying21) Tryz.underlying150 (zcW w) (KI 0 0) (keyOf_int_mk Tryz.underlying21 (JU hr)) trivial;rw [hl];rcases hg r hr with ⟨h1,h2⟩ | ⟨x,hx,rfl,h2⟩
 ·rw [h2] at hv;rw [QU hv,zfp h1,h2];rfl
 ·rw [h2] at hv;rw [QU hv,ziM hO hx,h2];rfl
theorem zcK {v:Value} {g n c:Nat} {ps:List MemPlace} (h:Y7 v=some (hdr g n c,ps)):v=.slice (some ⟨g,0,none⟩) n c:=by
 unfold Y7 at h;split at h
 ·injection h with h;injection h with h _;unfold hdr at h;injection h with h;injection h with h1 h2;injection h2 with h2 h3;injection h3 with h3 _;injection h1 with h1;injection h1 with _ h1;injection h2 with h2;injection h2 with _ h2;injection h3 with h3;injection h3 with _ h3;rw [Int.ofNat.inj h1,Int.ofNat.inj h2,Int.ofNat.inj h3]
 ·injection h with h;injection h with h _;unfold hdr at h;injection h with h;cases h
 ·cases h
theorem zbC {v:Value} {ps:List MemPlace} (h:Y7 v=some (.agg [],ps)):v=.slice none 0 0:=by
 unfold Y7 at h;split at h
 ·injection h with h;injection h with h _;unfold hdr at h;injection h with h;cases h
 ·rfl
 ·cases h
theorem zih {T:TV} {zs:List (Int × ByteArray)} (hpw:zs.Pairwise (fun x y =>x.1≠y.1)) {w:World} {M n:Nat} (h:FoAt w M n zs) {r:Int} (hr:R32 r):∃ a c,(Instr.lookup 152 (.map (some M)) (.int .i32 r) true).run Tryz.prog w=.ok (.tuple #[.slice a (((toP zs r).map (fun x =>zk x.2)).getD []).length c,.bool (toP zs r).isSome]) w∧RnC w w.heap.size a (((toP zs r).map (fun x =>zk x.2)).getD [])∧(toP zs r=none→a=none∧c=0):=by
 obtain ⟨G,hm,hg⟩:=h.mp;obtain ⟨v,ps,hl,hv⟩:=hm.look (int_keyed Tryz.underlying21) Tryz.underlying152 (z := .slice none 0 0) (by kernel_rfl) zcJ (keyOf_int_mk Tryz.underlying21 (JU hr)) trivial;rcases hg r hr with ⟨h1,h2⟩ | ⟨x,hx,rfl,g,c,h2,h3,h4⟩
 ·rw [h2] at hv hl;refine ⟨none,0, ?_, ?_,fun _ =>⟨rfl,rfl⟩⟩
  ·rw [hl,zeY h1,zbC hv];rfl
  ·rw [zeY h1];intro h0;simp at h0
 ·rw [h2] at hv hl;refine ⟨some ⟨g,0,none⟩,c, ?_, ?_,fun q =>?_⟩
  ·rw [hl,ziD hpw hx,zcK hv];rfl
  ·rw [ziD hpw hx];intro h0;exact ⟨g,0,rfl,h4.1,fun j y hy =>by rw [Nat.zero_add];exact h4.2 j y hy⟩
  ·rw [ziD hpw hx] at q;cases q
end
section
open Go.RowKit Go.Shelf
theorem yY {W:World} {lo E sz n:Nat} {a:Option Addr} {c:Nat} {xs:List Value} (h:W.ownsRow lo E sz (.slice a n c) n xs):RowC W W.heap.size a xs:=by
 intro h0;have hl:=h.1;have hn:n≠0:=fun e =>by rw [e,Nat.zero_mul] at hl;omega
 rcases zhC h (fun e =>absurd e hn) with ⟨_,e,_⟩ | ⟨g,c',e,_,_,_,hx⟩
 ·exact absurd e hn
 ·injection e with e1;refine ⟨g,0,e1,qF h g (by rw [e1];rfl),fun j u hu =>?_⟩;have:=hx j u hu;rw [show (⟨g,0,none⟩:Addr).add j=⟨g,0+j,none⟩ by cases j <;> simp [Addr.add]] at this;exact this
theorem TabAt.inn {W:World} {lo:Nat} {T:TV} {v:Value} (h:TabAt W lo T v):∃ a0 a1 a2 a3 a4 a5 a6 a7 c0 c1 c2 c3 c4 c5 c6 c7 us,v=.agg #[.slice a0 T.sc.length c0,.slice a1 T.co.length c1,.slice a2 T.ma.length c2,.slice a3 T.pr.length c3,.slice a4 T.fo.length c4,.slice a5 T.lk.length c5,.slice a6 T.dr.length c6,.slice a7 T.al.length c7]∧TabIn W T a0 a1 a2 a3 a4 a5 a6 a7 us∧Lst W lo ((.slice a0 T.sc.length c0::us)++[.slice a1 T.co.length c1]++[.slice a2 T.ma.length c2]++[.slice a3 T.pr.length c3]++[.slice a4 T.fo.length c4]++[.slice a5 T.lk.length c5]++[.slice a6 T.dr.length c6]++[.slice a7 T.al.length c7]) (Qv T us):=by
 obtain ⟨v0,us,v1,v2,v3,v4,v5,v6,v7,rfl,hu,hL⟩:=h;have hM:(T.sc.map (fun s =>Ln.mk 94 2 s.2.length (zM s.2))).length=us.length:=by rw [List.length_map,hu]
 have key:∀ (k:Nat) (x:Value) (l:Ln),((v0::us)++[v1]++[v2]++[v3]++[v4]++[v5]++[v6]++[v7])[k]?=some x→(Qv T us)[k]?=some l→W.ownsRow lo l.E l.sz x l.n l.xs:=fun k x l hx hl =>hL.own k x l hx hl
 have A:∀ (k:Nat),((v0::us)++[v1]++[v2]++[v3]++[v4]++[v5]++[v6]++[v7])[us.length+1+k]?=[v1,v2,v3,v4,v5,v6,v7][k]?:=fun k =>by
  rw [show (v0::us)++[v1]++[v2]++[v3]++[v4]++[v5]++[v6]++[v7]=(v0::us)++[v1,v2,v3,v4,v5,v6,v7] by simp,List.getElem?_append_right (by simp)]
  congr 1
  simp
 have B:∀ (k:Nat),(Qv T us)[us.length+1+k]?=[Ln.mk 94 2 T.co.length (zM T.co),Ln.mk 98 2 T.ma.length (XP T.ma),Ln.mk 100 3 T.pr.length (Xh T.pr),Ln.mk 102 2 T.fo.length (yW T.fo),Ln.mk 102 2 T.lk.length (yW T.lk),Ln.mk 94 2 T.dr.length (zM T.dr),Ln.mk 94 2 T.al.length (zM T.al)][k]?:=fun k =>by
  unfold Qv;rw [show ∀ (a:List Ln) (b c d e f g h:Ln),a++[b]++[c]++[d]++[e]++[f]++[g]++[h]=a++[b,c,d,e,f,g,h] from fun a b c d e f g h =>by simp,List.getElem?_append_right (by rw [List.length_cons,hM];omega)]
  congr 1
  rw [List.length_cons,hM];omega
 have o0:=key 0 v0 _ rfl rfl;have o1:=key _ v1 _ (A 0) (B 0);have o2:=key _ v2 _ (A 1) (B 1);have o3:=key _ v3 _ (A 2) (B 2);have o4:=key _ v4 _ (A 3) (B 3);have o5:=key _ v5 _ (A 4) (B 4);have o6:=key _ v6 _ (A 5) (B 5);have o7:=key _ v7 _ (A 6) (B 6);obtain ⟨a0,c0,rfl⟩:=zQ o0;obtain ⟨a1,c1,rfl⟩:=zQ o1;obtain ⟨a2,c2,rfl⟩:=zQ o2;obtain ⟨a3,c3,rfl⟩:=zQ o3;obtain ⟨a4,c4,rfl⟩:=zQ o4;obtain ⟨a5,c5,rfl⟩:=zQ o5;obtain ⟨a6,c6,rfl⟩:=zQ o6;obtain ⟨a7,c7,rfl⟩:=zQ o7;refine ⟨a0,a1,a2,a3,a4,a5,a6,a7,c0,c1,c2,c3,c4,c5,c6,c7,us,rfl,⟨hu,yY o0,yY o1,yY o2,yY o3,yY o4,yY o5,yY o6,yY o7, ?_⟩,hL⟩;intro j x u hx hu2;have oj:=key (j+1) u (Ln.mk 94 2 x.2.length (zM x.2)) (by
  rw [show ∀ (a:List Value) (b c d e f g h:Value),a++[b]++[c]++[d]++[e]++[f]++[g]++[h]=a++[b,c,d,e,f,g,h] from fun a b c d e f g h =>by simp,List.getElem?_append_left (by have:=(Ze.1 hu2).1;simp;omega),List.getElem?_cons_succ];exact hu2) (by
  unfold Qv;rw [show ∀ (a:List Ln) (b c d e f g h:Ln),a++[b]++[c]++[d]++[e]++[f]++[g]++[h]=a++[b,c,d,e,f,g,h] from fun a b c d e f g h =>by simp,List.getElem?_append_left (by rw [List.length_cons,hM];have:=(Ze.1 hu2).1;omega),List.getElem?_cons_succ,List.getElem?_map,hx];rfl)
 obtain ⟨b,d,rfl⟩:=zQ oj;exact ⟨b,d,rfl,yY oj⟩
end
section
open Go.RowKit Go.Shelf Go.Maps
set_option maxRecDepth 100000
set_option maxHeartbeats 8000000
def zgC (x:Option (Int × Int × Int)):Value := .tuple #[.int .i32 ((x.map (·.2.1)).getD 0),.int .i32 ((x.map (·.2.2)).getD 0),.bool x.isSome]
theorem zaf {T:TV} (hO:zx T) (B:Nat) (r:Int) (hr:R32 r) (w:World) (h:BookAt w B T):Calls Tryz.prog 213 #[.pointer (some ⟨B,0,none⟩),.int .i32 r] w fun e w' =>e=.returned (zgC (jI T r))∧Below w.heap.size w w':=by
 obtain ⟨M,n,c0,hs⟩:=h.pas;have hl:=zda hO hs hr;unfold zgC zky at *;generalize ((jI T r).map (·.2.1)).getD 0=x1 at *;generalize ((jI T r).map (·.2.2)).getD 0=x2 at *;generalize (jI T r).isSome=ok at *;have bP:=Blk.new w #[.int .i32 x1,.int .i32 x2] 157;have q0:=bP.cell 0;have q1:=bP.cell 1;have HB:Hz (Below w.heap.size w (w.alloc (.cells #[.int .i32 x1,.int .i32 x2] 157))):=kz ((Below.refl _ w).alloc zD _);clear hs h hO hr bP;go_enter Tryz.func213,Tryz.ntmps213;go_wp2_with fail
 generalize w.alloc _=w1 at *
 go_quiet (fail)
 go_wp2_with fail
 exact XS (v := .tuple #[.int .i32 x1,.int .i32 x2,.bool ok]) (by simp [results,Tryz.results213,go_sem]) rfl ⟨rfl,(oz HB).trans ⟨rfl,rfl,rfl,zD,fun _ _ =>rfl⟩⟩
theorem YN {T:TV} (hO:zx T) (B:Nat) (r:Int) (hr:R32 r) (w:World) (h:BookAt w B T):Calls Tryz.prog 160 #[.pointer (some ⟨B,0,none⟩),.int .i32 r] w fun e w' =>e=.returned (.bool (yJ T r || XU T r))∧Below w.heap.size w w':=by
 obtain ⟨M,n,c0,hs⟩:=h.pas;have hl:=zda hO hs hr;rw [zfo] at hl;have hcm:=ZK hO r;unfold zky at *;generalize ((jI T r).map (·.2.1)).getD 0=x1 at *;generalize ((jI T r).map (·.2.2)).getD 0=x2 at *;have hB:Below w.heap.size w (w.alloc (.cells #[.int .i32 x1,.int .i32 x2] 157)):=(Below.refl _ w).alloc zD _;have HC:=kz (Ya hO B r hr _ (h.below hB));have HB:=kz hB;have HM:=kz hcm;clear hs h hO hr hB hcm;generalize XU T r=ok at *;cases ok with
 | true =>
  go_enter Tryz.func160,Tryz.ntmps160;go_wp2_with fail
  go_ret;exact ⟨by rw [Bool.or_true];rfl,oz HB⟩
 | false =>
  go_enter Tryz.func160,Tryz.ntmps160;go_wp2_with fail
  refine (oz HC).mono ?_;rintro e w1 ⟨rfl,rfl⟩;clear HC;go_wp2_with fail
  go_ret;refine ⟨?_,oz HB⟩;rw [Bool.or_false, ← Bool.not_not (b:=yJ T r), ← oz HM];rfl
theorem zcQ {T:TV} (hO:zx T) (B:Nat) (r:Int) (hr:R32 r) (w:World) (h:BookAt w B T):Calls Tryz.prog 162 #[.pointer (some ⟨B,0,none⟩),.int .i32 r] w fun e w' =>e=.returned (.bool (zO T r))∧Below w.heap.size w w':=by
 obtain ⟨M,n,c0,hs⟩:=h.fos;obtain ⟨a,c,hl,_⟩:=zih (T:=T) hO.t4 hs hr;rw [zeX] at hl;generalize (((toP T.fo r).map (fun x =>zk x.2)).getD []).length=ln at *;have HW:=kz (qX r w);have hwr:=XT r;have HM:=kz (YN hO B r hr w h);have HD:=kz (fun w1 (hb:Below w.heap.size w w1) =>JD hO B r w1 (h.below hb));have hP:zO T r=(zm r && (!Yd T.fo r && (!(yJ T r || XU T r) && !drB T r))):=by
  unfold zO;cases zm r <;> cases yJ T r <;> cases XU T r <;> cases drB T r <;> cases Yd T.fo r <;> rfl
 rw [hP];clear hs h hO hr hP;obtain ⟨wd,hwd⟩:∃ wd,zI r=wd:=⟨_,rfl⟩;rw [hwd] at HW hwr;clear hwd;generalize zm r=b1 at *;generalize Yd T.fo r=b2 at *;generalize (yJ T r || XU T r)=b3 at *;generalize drB T r=b4 at *;cases b1 with
 | false =>
  obtain rfl:wd=0:=by simpa using hwr
  clear hwr;cases b2 with
  | true =>
   go_enter Tryz.func162,Tryz.ntmps162;go_wp2_with fail
   refine (oz HW).mono ?_;rintro e w1 ⟨rfl,rfl⟩;go_wp2_with fail
   go_ret;exact ⟨rfl,zl⟩
  | false =>
   go_enter Tryz.func162,Tryz.ntmps162;go_wp2_with fail
   refine (oz HW).mono ?_;rintro e w1 ⟨rfl,rfl⟩;go_wp2_with fail
   go_ret;exact ⟨rfl,zl⟩
 | true =>
  have hw0:(wd == 0)=false:=hwr;have hw1:¬ wd=0:=by simpa using hwr
  clear hwr;cases b2 with
  | true =>
   go_enter Tryz.func162,Tryz.ntmps162;go_wp2_with fail
   refine (oz HW).mono ?_;rintro e w1 ⟨rfl,rfl⟩;go_wp2_with fail
   go_ret;exact ⟨rfl,zl⟩
  | false =>
   go_enter Tryz.func162,Tryz.ntmps162;go_wp2_with fail
   refine (oz HW).mono ?_;rintro e w1 ⟨rfl,rfl⟩;go_wp2_with fail
   refine (oz HM).mono ?_;rintro e w2 ⟨rfl,hb2⟩;have HB2:=kz hb2;clear hb2 HM;cases b3 with
   | true =>
    go_wp2_with fail
    go_ret;exact ⟨rfl,oz HB2⟩
   | false =>
    go_wp2_with fail
    refine (oz HD w2 (oz HB2)).mono ?_;rintro e w3 ⟨rfl,hb3⟩;have HB3:=kz ((oz HB2).trans (hb3.mono (oz HB2).size));clear hb3 HD;go_wp2_with fail
    go_ret;refine ⟨?_,oz HB3⟩;show Ending.returned (.bool (wd != 0 && !b4))=_;rw [show (wd != 0)=true by simpa using hw1];rfl
structure BkT (w:World) (B:Nat) (T:TV) (a0 a1 a2 a3 a4 a5 a6 a7:Option Addr) (c0 c1 c2 c3 c4 c5 c6 c7:Nat) (us:List Value):Prop where
 k0:w.cell? ⟨B,0,none⟩=some (.slice a0 T.sc.length c0)
 k1:w.cell? ⟨B,1,none⟩=some (.slice a1 T.co.length c1)
 k2:w.cell? ⟨B,2,none⟩=some (.slice a2 T.ma.length c2)
 k3:w.cell? ⟨B,3,none⟩=some (.slice a3 T.pr.length c3)
 k4:w.cell? ⟨B,4,none⟩=some (.slice a4 T.fo.length c4)
 k5:w.cell? ⟨B,5,none⟩=some (.slice a5 T.lk.length c5)
 k6:w.cell? ⟨B,6,none⟩=some (.slice a6 T.dr.length c6)
 k7:w.cell? ⟨B,7,none⟩=some (.slice a7 T.al.length c7)
 lt:B < w.heap.size
 ti:TabIn w T a0 a1 a2 a3 a4 a5 a6 a7 us
theorem BkT.below {w w':World} {B:Nat} {T:TV} {a0 a1 a2 a3 a4 a5 a6 a7:Option Addr} {c0 c1 c2 c3 c4 c5 c6 c7:Nat} {us:List Value} (h:BkT w B T a0 a1 a2 a3 a4 a5 a6 a7 c0 c1 c2 c3 c4 c5 c6 c7 us) (hb:Below w.heap.size w w'):BkT w' B T a0 a1 a2 a3 a4 a5 a6 a7 c0 c1 c2 c3 c4 c5 c6 c7 us:=by
 have k:∀ j,w'.cell? ⟨B,j,none⟩=w.cell? ⟨B,j,none⟩:=fun j =>hb.cell (p:=⟨B,j,none⟩) h.lt
 exact ⟨(k 0).trans h.k0,(k 1).trans h.k1,(k 2).trans h.k2,(k 3).trans h.k3,(k 4).trans h.k4,(k 5).trans h.k5,(k 6).trans h.k6,(k 7).trans h.k7,zaY h.lt hb.size,h.ti.lower hb⟩
theorem BookAt.tabs {w:World} {B:Nat} {T:TV} (h:BookAt w B T):∃ a0 a1 a2 a3 a4 a5 a6 a7 c0 c1 c2 c3 c4 c5 c6 c7 us,BkT w B T a0 a1 a2 a3 a4 a5 a6 a7 c0 c1 c2 c3 c4 c5 c6 c7 us:=by
 obtain ⟨lo,t0,t1,t2,t3,t4,t5,t6,t7,sv,bs,Bc,Bd,Ba,M5,n5,M6,n6,M7,n7,MF,nF,ML,nL,h⟩:=h;obtain ⟨a0,a1,a2,a3,a4,a5,a6,a7,c0,c1,c2,c3,c4,c5,c6,c7,us,e,ti,_⟩:=h.tb.inn;injection e with e;have key:∀ j v,#[t0,t1,t2,t3,t4,t5,t6,t7][j]?=some v→w.cell? ⟨B,j,none⟩=some v:=fun j v hv =>by
  rw [h.bx.cell j, ← hv];have hj:j < 8:=(zeI.1 hv).1;obtain rfl | rfl | rfl | rfl | rfl | rfl | rfl | rfl:j=0∨j=1∨j=2∨j=3∨j=4∨j=5∨j=6∨j=7:=by omega
  all_goals rfl
 rw [e] at key;exact ⟨a0,a1,a2,a3,a4,a5,a6,a7,c0,c1,c2,c3,c4,c5,c6,c7,us,key 0 _ rfl,key 1 _ rfl,key 2 _ rfl,key 3 _ rfl,key 4 _ rfl,key 5 _ rfl,key 6 _ rfl,key 7 _ rfl,h.bx.lt,ti⟩
end
end Go.Proofs.YthchopdfmchpkaaGreat
