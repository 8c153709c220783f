/- Texts of this claim, one behind the other. -/
import Derived.Test.YtmemedpoaocdkaaGreatM22
/- A Book of tables: bookOf, one pair more. -/
namespace Go.Proofs.YtmemedpoaocdkaaGreat
open Go.RowKit Go.Shelf Go.Maps
set_option linter.unusedVariables false
noncomputable def reg16:Code:=match Tryz.f52.body with
 | some (.seq _ (.seq _ (.seq _ (.seq _ (.seq (.seq _ (.block _ (.loop (.seq _ (.seq _ (.seq (.block _ (.seq _ (.seq _ r))) _)))))) _))))) =>r
 | _ =>.skip
theorem PaAt.kept {w w':World} {M n N:Nat} {zs:List (Int × Int × Int)} (h:PaAt w M n zs) (hg:w.grownBy w' (some N)) (hne:M≠N):PaAt w' M n zs:=by
 obtain ⟨G,h1,h2⟩:=h.mp
 exact ⟨G,h1.kept hg (fun e =>hne (Option.some.inj e)),h2⟩
theorem JoAt.kept {w w':World} {M n N:Nat} {zs:List (Int × Int × Int)} (h:JoAt w M n zs) (hg:w.grownBy w' (some N)) (hne:M≠N):JoAt w' M n zs:=by
 obtain ⟨G,h1,h2⟩:=h.mp
 exact ⟨G,h1.kept hg (fun e =>hne (Option.some.inj e)),h2⟩
def EnP (w:World) (M k:Nat) (zs:List (Int × Int × Int)) (x:Int × Int × Int) (st:Nat):Prop := ∀ w2:World,w2.heap[M]?=w.heap[M]?→∃ w3,(Instr.entryStore 103 (.map (some M)) (goInt st) (.agg #[.int .i32 x.2.1,.int .i32 x.2.2])).run Tryz.prog w2=.ok () w3∧PaAt w3 M (k+1) (zs++[x])∧w2.grownBy w3 (some M)
def EnJ (w:World) (M k:Nat) (zs:List (Int × Int × Int)) (x:Int × Int × Int) (st:Nat):Prop := ∀ w2:World,w2.heap[M]?=w.heap[M]?→∃ w3,(Instr.entryStore 104 (.map (some M)) (goInt st) (.int .i32 x.1)).run Tryz.prog w2=.ok () w3∧JoAt w3 M (k+1) (zs++[x])∧w2.grownBy w3 (some M)
theorem zjh (u:World):(zeroValue 134).run Tryz.prog u=.ok (.agg #[.int .i32 0,.int .i32 0]) u:=by kernel_rfl
theorem zl9 (u:World):(zeroValue 21).run Tryz.prog u=.ok (.int .i32 0) u:=by kernel_rfl
theorem PaAt.entry {w:World} {M k:Nat} {zs:List (Int × Int × Int)} {x:Int × Int × Int} (h:PaAt w M k zs) (hk:k≤1000000) (hx:R32 x.1):∃ (v0:Value) (st:Nat) (w1:World),(Instr.mapEntry 103 (.map (some M)) (.int .i32 x.1)).run Tryz.prog w=.ok (.tuple #[v0,goInt st]) w1∧w.grownBy w1 (some M)∧EnP w1 M k zs x st:=by
 obtain ⟨G,hm,hg⟩:=h.mp
 obtain ⟨v0,st,w1,h1,h2,h3⟩:=hm.entry (int_keyed Tryz.underlying21) Tryz.underlying103 (by unfold maxLen;omega) zjh (keyOf_int_mk Tryz.underlying21 (zhI hx))
 refine ⟨v0,st,w1,h1,h2,fun w2 e2 =>?_⟩
 obtain ⟨w3,h4,h5,h6⟩:=h3 w2 _ _ _ e2 (zgJ x.2.1 x.2.2)
 exact ⟨w3,h4,⟨_,h5,hg.put⟩,h6⟩
theorem JoAt.entry {w:World} {M k:Nat} {zs:List (Int × Int × Int)} {x:Int × Int × Int} (h:JoAt w M k zs) (hk:k≤1000000) (hx1:R32 x.1) (hx2:R32 x.2.1) (hx3:R32 x.2.2):∃ (v0:Value) (st:Nat) (w1:World),(Instr.mapEntry 104 (.map (some M)) (.agg #[.int .i32 x.2.1,.int .i32 x.2.2])).run Tryz.prog w=.ok (.tuple #[v0,goInt st]) w1∧w.grownBy w1 (some M)∧EnJ w1 M k zs x st:=by
 obtain ⟨G,hm,hg⟩:=h.mp
 have hkey:=WideMaps.keyOf_pair zp2 Tryz.underlying21 zfK (zhI hx2) (zhI hx3)
 obtain ⟨v0,st,w1,h1,h2,h3⟩:=hm.entry arr_keyed Tryz.underlying104 (by unfold maxLen;omega) zl9 hkey
 refine ⟨v0,st,w1,h1,h2,fun w2 e2 =>?_⟩
 obtain ⟨w3,h4,h5,h6⟩:=h3 w2 _ _ _ e2 (plainElem_int (H:=Unit) Tryz.underlying21 (a:=x.1) (zhI hx1))
 exact ⟨w3,h4,⟨_,h5,hg.put hkey⟩,h6⟩
structure XtS (M6 M7 k:Nat) (zs:List (Int × Int × Int)) (x:Int × Int × Int) (l:Array Bool) (U:Nat→Value) (w:World):Prop where
 c14:l.getD 14 false=false→l.getD 15 false=false
 c15:l.getD 15 false=false→l.getD 16 false=false
 c16:l.getD 16 false=false→l.getD 17 false=false
 c17:l.getD 17 false=false→l.getD 18 false=false
 a0:l.getD 14 false=false→PaAt w M6 k zs
 a1:l.getD 14 false=true→l.getD 16 false=false→∃ (v0:Value) (st:Nat),U 14=.tuple #[v0,goInt st]∧(l.getD 15 false=true→U 15=goInt st)∧EnP w M6 k zs x st
 a2:l.getD 16 false=true→PaAt w M6 (k+1) (zs++[x])
 b0:l.getD 17 false=false→JoAt w M7 k zs
 b1:l.getD 17 false=true→∃ (v0:Value) (st:Nat),U 17=.tuple #[v0,goInt st]∧(l.getD 18 false=true→U 18=goInt st)∧EnJ w M7 k zs x st
theorem XtS.pure {M6 M7 k:Nat} {zs:List (Int × Int × Int)} {x:Int × Int × Int} {l:Array Bool} {U:Nat→Value} {w:World} (h:XtS M6 M7 k zs x l U w) (i:Nat) (hi:i < 14) (v:Value):XtS M6 M7 k zs x (l.setIfInBounds i true) (zaa U i v) w:=by
 have g:∀ j,14≤j→(l.setIfInBounds i true).getD j false=l.getD j false:=fun j hj =>getD_set_ne false (by omega)
 have s:∀ j,14≤j→zaa U i v j=U j:=fun j hj =>zaT _ _ (by omega)
 refine ⟨?_, ?_, ?_, ?_, ?_, ?_, ?_, ?_, ?_⟩ <;> rw [g _ (by omega)]
 ·rw [g _ (by omega)];exact h.c14
 ·rw [g _ (by omega)];exact h.c15
 ·rw [g _ (by omega)];exact h.c16
 ·rw [g _ (by omega)];exact h.c17
 ·exact h.a0
 ·rw [g _ (by omega),g _ (by omega),s _ (by omega),s _ (by omega)];exact h.a1
 ·exact h.a2
 ·exact h.b0
 ·rw [g _ (by omega),s _ (by omega),s _ (by omega)];exact h.b1
theorem zcf {l:Array Bool} {i:Nat} (h:i < l.size):(l.setIfInBounds i true).getD i false=true:=by simp [h]
def paD (B Pb Qb M6 M7:Nat) (x1 x2 x3:Int):Nat→Value→World→Prop
 | 0,v,w =>v=.pointer (some ⟨B,0,none⟩)
 | 1,v,w =>v=.pointer (some ⟨B,0,none⟩)
 | 2,v,w =>v=.pointer (some ⟨B,13,none⟩)
 | 3,v,w =>v=.map (some M6)
 | 4,v,w =>v=.pointer (some ⟨Pb,0,none⟩)
 | 5,v,w =>v=.int .i32 x1
 | 6,v,w =>v=.pointer (some ⟨B,0,none⟩)
 | 7,v,w =>v=.pointer (some ⟨B,0,none⟩)
 | 8,v,w =>v=.pointer (some ⟨B,14,none⟩)
 | 9,v,w =>v=.map (some M7)
 | 10,v,w =>v=.agg #[.int .i32 x2,.int .i32 x3]
 | 11,v,w =>v=.agg #[.int .i32 x2,.int .i32 x3]
 | 12,v,w =>v=.pointer (some ⟨Pb,0,none⟩)
 | 13,v,w =>v=.int .i32 x1
 | _,v,w =>True
theorem zk6 {B Pb Qb M6 M7:Nat} {x1 x2 x3:Int} {w w':World}:∀ (j:Nat) (v:Value),paD B Pb Qb M6 M7 x1 x2 x3 j v w→paD B Pb Qb M6 M7 x1 x2 x3 j v w'
 | 0,v,h =>h
 | 1,v,h =>h
 | 2,v,h =>h
 | 3,v,h =>h
 | 4,v,h =>h
 | 5,v,h =>h
 | 6,v,h =>h
 | 7,v,h =>h
 | 8,v,h =>h
 | 9,v,h =>h
 | 10,v,h =>h
 | 11,v,h =>h
 | 12,v,h =>h
 | 13,v,h =>h
 | _+14,v,h =>trivial
theorem zeS {w w':World} {M A B:Nat} (hg:w.grownBy w' (some M)) (h:M=A∨M=B):KeptX (fun g =>g=A∨g=B) w w':=⟨hg.os,hg.tape,hg.output,hg.size,fun x hx hn =>hg.block x hx (fun e =>hn (by have:=Option.some.inj e;subst this;exact h))⟩
theorem zh8 (a b:Value) (w:World):(Instr.extract (.tuple #[a,b]) 1).run Tryz.prog w=.ok b w:=by kernel_rfl
theorem zet (n i:Nat):(Array.replicate n false).getD i false=false:=by
 rcases Nat.lt_or_ge i n with h' | h' <;> simp [h']
set_option maxRecDepth 100000 in
set_option maxHeartbeats 8000000 in
theorem zkV {wb:World} {B Pb Qb M6 M7 k:Nat} {x1 x2 x3:Int} {zs:List (Int × Int × Int)} {z0 z1 z2 z4 z5 z6 z7 z8 z11 z12 z13 z14 z15 z16 z17 z18 z19 z20 z21 z22 z23 z24 z25 z26 z27 z28 z29 z30 z31 z32 z33 z34 z35 z36 z37 z38 z39 z40 z41 z42 z43 z44 z45 z46 z47 z48 z49 z50 z51 z52 z53 z54 z55 z56 z57 z58 z59 z60 z61 z62 z63 z64 z65 z66 z67 z68 z69 z70 z71 z72 z73 z74 z75 z76 z77 z78 z79 z80 z81 z82 z83 z84 z85 z86 z87 z88 z89 z90 z91 z92 z93 z94 z95 z96 z97 z98 z99 z100:Value} {Q:Exit→Act→World→Prop} (hmx:Tryz.prog.follows .mixedOrders=true)
  (HF:Hz (∀ w2,KeptX (fun g =>g=M6∨g=M7) wb.drew w2→w2.cell? ⟨Pb,0,none⟩=some (.int .i32 x1)∧w2.cell? ⟨Qb,0,none⟩=some (.int .i32 x2)∧w2.cell? ⟨Qb,1,none⟩=some (.int .i32 x3)∧w2.cell? ⟨B,13,none⟩=some (.map (some M6))∧w2.cell? ⟨B,14,none⟩=some (.map (some M7))))
  (HX:Hz (R32 x1∧R32 x2∧R32 x3∧k≤1000000∧M6≠M7∧PaAt wb.drew M6 k zs∧JoAt wb.drew M7 k zs))
  (hQ:∀ (U:Nat→Value) (wn:World),Hz (PaAt wn M6 (k+1) (zs++[(x1,x2,x3)])∧JoAt wn M7 (k+1) (zs++[(x1,x2,x3)])∧KeptX (fun g =>g=M6∨g=M7) wb.drew wn)→Q .normal { tmps:=#[z0,z1,z2,.pointer (some ⟨B,0,none⟩),z4,z5,z6,z7,z8,.pointer (some ⟨Pb,0,none⟩),.pointer (some ⟨Qb,0,none⟩),z11,z12,z13,z14,z15,z16,z17,z18,z19,z20,z21,z22,z23,z24,z25,z26,z27,z28,z29,z30,z31,z32,z33,z34,z35,z36,z37,z38,z39,z40,z41,z42,z43,z44,z45,z46,z47,z48,z49,z50,z51,z52,z53,z54,z55,z56,z57,z58,z59,z60,z61,z62,z63,z64,z65,z66,z67,z68,z69,z70,z71,z72,z73,z74,z75,z76,z77,z78,z79,z80,U 0,U 1,U 2,U 3,U 4,U 5,U 6,U 7,U 8,U 9,U 10,U 11,U 12,U 13,U 14,U 15,U 17,U 18,z99,z100],defers := [] } wn) :
  Code.wp Tryz.prog reg16 Q { tmps:=#[z0,z1,z2,.pointer (some ⟨B,0,none⟩),z4,z5,z6,z7,z8,.pointer (some ⟨Pb,0,none⟩),.pointer (some ⟨Qb,0,none⟩),z11,z12,z13,z14,z15,z16,z17,z18,z19,z20,z21,z22,z23,z24,z25,z26,z27,z28,z29,z30,z31,z32,z33,z34,z35,z36,z37,z38,z39,z40,z41,z42,z43,z44,z45,z46,z47,z48,z49,z50,z51,z52,z53,z54,z55,z56,z57,z58,z59,z60,z61,z62,z63,z64,z65,z66,z67,z68,z69,z70,z71,z72,z73,z74,z75,z76,z77,z78,z79,z80,z81,z82,z83,z84,z85,z86,z87,z88,z89,z90,z91,z92,z93,z94,z95,z96,z97,z98,z99,z100],defers := [] } wb:=by
 have HQ:=kz hQ
 clear hQ
 delta reg16 Tryz.f52
 dsimp only
 refine zaB hmx 19 (by decide) (by kernel_rfl) (by kernel_rfl) (fun l a wv => ∃ U:Nat→Value,a = { tmps:=#[z0,z1,z2,.pointer (some ⟨B,0,none⟩),z4,z5,z6,z7,z8,.pointer (some ⟨Pb,0,none⟩),.pointer (some ⟨Qb,0,none⟩),z11,z12,z13,z14,z15,z16,z17,z18,z19,z20,z21,z22,z23,z24,z25,z26,z27,z28,z29,z30,z31,z32,z33,z34,z35,z36,z37,z38,z39,z40,z41,z42,z43,z44,z45,z46,z47,z48,z49,z50,z51,z52,z53,z54,z55,z56,z57,z58,z59,z60,z61,z62,z63,z64,z65,z66,z67,z68,z69,z70,z71,z72,z73,z74,z75,z76,z77,z78,z79,z80,U 0,U 1,U 2,U 3,U 4,U 5,U 6,U 7,U 8,U 9,U 10,U 11,U 12,U 13,U 14,U 15,U 17,U 18,z99,z100],defers := [] }∧RgX wb.drew (fun g =>g=M6∨g=M7) (paD B Pb Qb M6 M7 x1 x2 x3) l U wv∧XtS M6 M7 k zs (x1,x2,x3) l U wv) ⟨fun x =>match x with | 0 =>z81 | 1 =>z82 | 2 =>z83 | 3 =>z84 | 4 =>z85 | 5 =>z86 | 6 =>z87 | 7 =>z88 | 8 =>z89 | 9 =>z90 | 10 =>z91 | 11 =>z92 | 12 =>z93 | 13 =>z94 | 14 =>z95 | 15 =>z96 | 17 =>z97 | 18 =>z98 | _ =>undef,rfl,RgX.start _ _,⟨fun _ =>zet _ _,fun _ =>zet _ _,fun _ =>zet _ _,fun _ =>zet _ _,fun _ =>(oz HX).2.2.2.2.2.1,fun h =>by (rw [zet] at h;cases h),fun h =>by (rw [zet] at h;cases h),fun _ =>(oz HX).2.2.2.2.2.2,fun h =>by (rw [zet] at h;cases h)⟩⟩ ?_ ?_
 ·rintro l a wv i ⟨U,rfl,hJ,hE⟩ hl hi hif
  have h0:=(mem_ready.1 hi).1
  have hlt:=zeN hl h0
  have HJ:=kz hJ
  have HE:=kz hE
  have hl':l.size=20:=hl
  have HL:=kz hl'
  clear hJ hE hl hl'
  replace hlt:i < 20:=hlt
  obtain rfl | rfl | rfl | rfl | rfl | rfl | rfl | rfl | rfl | rfl | rfl | rfl | rfl | rfl | rfl | rfl | rfl | rfl | rfl:i=0∨i=1∨i=2∨i=3∨i=4∨i=5∨i=6∨i=7∨i=8∨i=9∨i=10∨i=11∨i=12∨i=13∨i=14∨i=15∨i=16∨i=17∨i=18:=by omega
  ·refine wpOp_step rfl (fun K hK =>?_)
   clear hlt hif
   go_simp
   exact hK _ _ ⟨zaa U 0 _,rfl,(oz HJ).same 0 _ rfl,(oz HE).pure 0 (by decide) _⟩
  ·refine wpOp_step rfl (fun K hK =>?_)
   clear hlt hif
   have d0:U 0=.pointer (some ⟨B,0,none⟩):=(oz HJ).val 0 (zab hi 0 (by kernel_rfl))
   go_simp
   exact hK _ _ ⟨zaa U 1 _,(by rw [zac d0];rfl),(oz HJ).same 1 _ rfl,(oz HE).pure 1 (by decide) _⟩
  ·refine wpOp_step rfl (fun K hK =>?_)
   clear hlt hif
   have d1:U 1=.pointer (some ⟨B,0,none⟩):=(oz HJ).val 1 (zab hi 1 (by kernel_rfl))
   go_simp
   exact hK _ _ ⟨zaa U 2 _,(by rw [zac d1];rfl),(oz HJ).same 2 _ rfl,(oz HE).pure 2 (by decide) _⟩
  ·refine wpOp_step rfl (fun K hK =>?_)
   clear hlt hif
   have d2:U 2=.pointer (some ⟨B,13,none⟩):=(oz HJ).val 2 (zab hi 2 (by kernel_rfl))
   have q6:=(oz HF wv (oz HJ).kp).2.2.2.1
   go_simp
   exact hK _ _ ⟨zaa U 3 _,(by rw [zac d2];rfl),(oz HJ).same 3 _ rfl,(oz HE).pure 3 (by decide) _⟩
  ·refine wpOp_step rfl (fun K hK =>?_)
   clear hlt hif
   go_simp
   exact hK _ _ ⟨zaa U 4 _,rfl,(oz HJ).same 4 _ rfl,(oz HE).pure 4 (by decide) _⟩
  ·refine wpOp_step rfl (fun K hK =>?_)
   clear hlt hif
   have d4:U 4=.pointer (some ⟨Pb,0,none⟩):=(oz HJ).val 4 (zab hi 4 (by kernel_rfl))
   have q0:=(oz HF wv (oz HJ).kp).1
   go_simp
   exact hK _ _ ⟨zaa U 5 _,(by rw [zac d4];rfl),(oz HJ).same 5 _ rfl,(oz HE).pure 5 (by decide) _⟩
  ·refine wpOp_step rfl (fun K hK =>?_)
   clear hlt hif
   go_simp
   exact hK _ _ ⟨zaa U 6 _,rfl,(oz HJ).same 6 _ rfl,(oz HE).pure 6 (by decide) _⟩
  ·refine wpOp_step rfl (fun K hK =>?_)
   clear hlt hif
   have d6:U 6=.pointer (some ⟨B,0,none⟩):=(oz HJ).val 6 (zab hi 6 (by kernel_rfl))
   go_simp
   exact hK _ _ ⟨zaa U 7 _,(by rw [zac d6];rfl),(oz HJ).same 7 _ rfl,(oz HE).pure 7 (by decide) _⟩
  ·refine wpOp_step rfl (fun K hK =>?_)
   clear hlt hif
   have d7:U 7=.pointer (some ⟨B,0,none⟩):=(oz HJ).val 7 (zab hi 7 (by kernel_rfl))
   go_simp
   exact hK _ _ ⟨zaa U 8 _,(by rw [zac d7];rfl),(oz HJ).same 8 _ rfl,(oz HE).pure 8 (by decide) _⟩
  ·refine wpOp_step rfl (fun K hK =>?_)
   clear hlt hif
   have d8:U 8=.pointer (some ⟨B,14,none⟩):=(oz HJ).val 8 (zab hi 8 (by kernel_rfl))
   have q7:=(oz HF wv (oz HJ).kp).2.2.2.2
   go_simp
   exact hK _ _ ⟨zaa U 9 _,(by rw [zac d8];rfl),(oz HJ).same 9 _ rfl,(oz HE).pure 9 (by decide) _⟩
  ·refine wpOp_step rfl (fun K hK =>?_)
   clear hlt hif
   have q1:=(oz HF wv (oz HJ).kp).2.1
   have q2:=(oz HF wv (oz HJ).kp).2.2.1
   go_simp
   exact hK _ _ ⟨zaa U 10 _,rfl,(oz HJ).same 10 _ rfl,(oz HE).pure 10 (by decide) _⟩
  ·refine wpOp_step rfl (fun K hK =>?_)
   clear hlt hif
   have q1:=(oz HF wv (oz HJ).kp).2.1
   have q2:=(oz HF wv (oz HJ).kp).2.2.1
   go_simp
   exact hK _ _ ⟨zaa U 11 _,rfl,(oz HJ).same 11 _ rfl,(oz HE).pure 11 (by decide) _⟩
  ·refine wpOp_step rfl (fun K hK =>?_)
   clear hlt hif
   go_simp
   exact hK _ _ ⟨zaa U 12 _,rfl,(oz HJ).same 12 _ rfl,(oz HE).pure 12 (by decide) _⟩
  ·refine wpOp_step rfl (fun K hK =>?_)
   clear hlt hif
   have d12:U 12=.pointer (some ⟨Pb,0,none⟩):=(oz HJ).val 12 (zab hi 12 (by kernel_rfl))
   have q0:=(oz HF wv (oz HJ).kp).1
   go_simp
   exact hK _ _ ⟨zaa U 13 _,(by rw [zac d12];rfl),(oz HJ).same 13 _ rfl,(oz HE).pure 13 (by decide) _⟩
  ·refine wpOp_step rfl (fun K hK =>?_)
   clear hlt hif
   have d3:U 3=.map (some M6):=(oz HJ).val 3 (zab hi 3 (by kernel_rfl))
   have d5:U 5=.int .i32 x1:=(oz HJ).val 5 (zab hi 5 (by kernel_rfl))
   have n14:l.getD 14 false=false:=by rw [← zcV (by rw [oz HL];decide)];exact h0
   have n15:=(oz HE).c14 n14
   have n16:=(oz HE).c15 n15
   have n17:=(oz HE).c16 n16
   obtain ⟨v0,st,w1,hr,hg,hen⟩:=((oz HE).a0 n14).entry (x:=(x1,x2,x3)) (oz HX).2.2.2.1 (oz HX).1
   dsimp only at hr
   have HR:=kz (And.intro hg hen)
   clear hg hen
   have HN:=kz (And.intro n15 (And.intro n16 n17))
   clear n15 n16 n17
   go_simp
   obtain ⟨n15,n16,n17⟩:=oz HN
   refine hK _ _ ⟨zaa U 14 (.tuple #[v0,goInt st]),(by rw [zac d3,zac d5];rfl),(oz HJ).put 14 _ (zeS (oz HR).1 (.inl rfl)) (fun j _ _ hD =>zk6 j _ hD) trivial, ?_⟩
   refine ⟨fun h =>?_,fun _ =>by rw [getD_set_ne false (show (14:Nat)≠16 by decide)];exact n16,fun _ =>by rw [getD_set_ne false (show (14:Nat)≠17 by decide)];exact n17,fun _ =>by rw [getD_set_ne false (show (14:Nat)≠18 by decide)];exact (oz HE).c17 n17,fun h =>?_,fun _ _ =>⟨v0,st,zaQ _ _ _,fun h =>?_,(oz HR).2⟩,fun h =>?_,fun _ =>((oz HE).b0 n17).kept (oz HR).1 (oz HX).2.2.2.2.1.symm,fun h =>?_⟩
   ·rw [zcf (by rw [oz HL];decide)] at h;cases h
   ·rw [zcf (by rw [oz HL];decide)] at h;cases h
   ·rw [getD_set_ne false (show (14:Nat)≠15 by decide),n15] at h;cases h
   ·rw [getD_set_ne false (show (14:Nat)≠16 by decide),n16] at h;cases h
   ·rw [getD_set_ne false (show (14:Nat)≠17 by decide),n17] at h;cases h
  ·refine wpOp_step rfl (fun K hK =>?_)
   clear hlt hif
   have n15:l.getD 15 false=false:=by rw [← zcV (by rw [oz HL];decide)];exact h0
   have l14:=zab hi 14 (by kernel_rfl)
   have n16:=(oz HE).c15 n15
   have n17:=(oz HE).c16 n16
   obtain ⟨v0,st,d14,_,hen⟩:=(oz HE).a1 l14 n16
   have HR:=kz hen
   clear hen
   have hx1:=zh8 v0 (goInt st) wv
   have HN:=kz (And.intro l14 (And.intro n16 n17))
   clear l14 n16 n17
   go_simp
   obtain ⟨l14,n16,n17⟩:=oz HN
   refine hK _ _ ⟨zaa U 15 (goInt st),(by rw [zac d14];rfl),(oz HJ).same 15 _ trivial, ?_⟩
   refine ⟨fun h =>?_,fun h =>?_,fun _ =>by rw [getD_set_ne false (show (15:Nat)≠17 by decide)];exact n17,fun _ =>by rw [getD_set_ne false (show (15:Nat)≠18 by decide)];exact (oz HE).c17 n17,fun h =>?_,fun _ _ =>⟨v0,st,(by rw [zaT _ _ (show (14:Nat)≠15 by decide)];exact d14),fun _ =>zaQ _ _ _,oz HR⟩,fun h =>?_,fun _ =>(oz HE).b0 n17,fun h =>?_⟩
   ·rw [getD_set_ne false (show (15:Nat)≠14 by decide),l14] at h;cases h
   ·rw [zcf (by rw [oz HL];decide)] at h;cases h
   ·rw [getD_set_ne false (show (15:Nat)≠14 by decide),l14] at h;cases h
   ·rw [getD_set_ne false (show (15:Nat)≠16 by decide),n16] at h;cases h
   ·rw [getD_set_ne false (show (15:Nat)≠17 by decide),n17] at h;cases h
  ·refine wpOp_step rfl (fun K hK =>?_)
   clear hlt hif
   have d3:U 3=.map (some M6):=(oz HJ).val 3 (zab hi 3 (by kernel_rfl))
   have d11:U 11=.agg #[.int .i32 x2,.int .i32 x3]:=(oz HJ).val 11 (zab hi 11 (by kernel_rfl))
   have n16:l.getD 16 false=false:=by rw [← zcV (by rw [oz HL];decide)];exact h0
   have l14:=zab hi 14 (by kernel_rfl)
   have l15:=zab hi 15 (by kernel_rfl)
   have n17:=(oz HE).c16 n16
   obtain ⟨v0,st,d14,d15,hen⟩:=(oz HE).a1 l14 n16
   have d15:U 15=.int .i64 (st:Int):=d15 l15
   obtain ⟨w3,hr,hpa,hg⟩:=hen wv rfl
   unfold goInt at hr
   dsimp only at hr
   have HR:=kz (And.intro hpa hg)
   clear hpa hg hen d14
   have HN:=kz (And.intro l14 (And.intro l15 n17))
   clear l14 l15 n17
   go_simp
   obtain ⟨l14,l15,n17⟩:=oz HN
   refine hK _ _ ⟨zaa U 16 undef,(by rw [zac d3,zac d11,zac d15];rfl),(oz HJ).put 16 _ (zeS (oz HR).2 (.inl rfl)) (fun j _ _ hD =>zk6 j _ hD) trivial, ?_⟩
   refine ⟨fun h =>?_,fun h =>?_,fun h =>?_,fun _ =>by rw [getD_set_ne false (show (16:Nat)≠18 by decide)];exact (oz HE).c17 n17,fun h =>?_,fun _ h =>?_,fun _ =>(oz HR).1,fun _ =>((oz HE).b0 n17).kept (oz HR).2 (oz HX).2.2.2.2.1.symm,fun h =>?_⟩
   ·rw [getD_set_ne false (show (16:Nat)≠14 by decide),l14] at h;cases h
   ·rw [getD_set_ne false (show (16:Nat)≠15 by decide),l15] at h;cases h
   ·rw [zcf (by rw [oz HL];decide)] at h;cases h
   ·rw [getD_set_ne false (show (16:Nat)≠14 by decide),l14] at h;cases h
   ·rw [zcf (by rw [oz HL];decide)] at h;cases h
   ·rw [getD_set_ne false (show (16:Nat)≠17 by decide),n17] at h;cases h
  ·refine wpOp_step rfl (fun K hK =>?_)
   clear hlt hif
   have d9:U 9=.map (some M7):=(oz HJ).val 9 (zab hi 9 (by kernel_rfl))
   have d10:U 10=.agg #[.int .i32 x2,.int .i32 x3]:=(oz HJ).val 10 (zab hi 10 (by kernel_rfl))
   have n17:l.getD 17 false=false:=by rw [← zcV (by rw [oz HL];decide)];exact h0
   have l16:=zab hi 16 (by kernel_rfl)
   have n18:=(oz HE).c17 n17
   obtain ⟨v0,st,w1,hr,hg,hen⟩:=((oz HE).b0 n17).entry (x:=(x1,x2,x3)) (oz HX).2.2.2.1 (oz HX).1 (oz HX).2.1 (oz HX).2.2.1
   dsimp only at hr
   have HR:=kz (And.intro hg hen)
   clear hg hen
   have HN:=kz (And.intro l16 n18)
   clear l16 n18
   go_simp
   obtain ⟨l16,n18⟩:=oz HN
   have c16:l.getD 16 false=true:=l16
   refine hK _ _ ⟨zaa U 17 (.tuple #[v0,goInt st]),(by rw [zac d9,zac d10];rfl),(oz HJ).put 17 _ (zeS (oz HR).1 (.inr rfl)) (fun j _ _ hD =>zk6 j _ hD) trivial, ?_⟩
   have g:∀ j,j≠17→(l.setIfInBounds 17 true).getD j false=l.getD j false:=fun j hj =>getD_set_ne false (Ne.symm hj)
   refine ⟨fun h =>?_,fun h =>?_,fun h =>?_,fun h =>?_,fun h =>?_,fun _ h =>?_,fun _ =>((oz HE).a2 l16).kept (oz HR).1 (oz HX).2.2.2.2.1,fun h =>?_,fun _ =>⟨v0,st,zaQ _ _ _,fun h =>?_,(oz HR).2⟩⟩
   ·rw [g 14 (by decide)] at h;rw [g 15 (by decide)];exact (oz HE).c14 h
   ·rw [g 15 (by decide)] at h;rw [g 16 (by decide)];exact (oz HE).c15 h
   ·rw [g 16 (by decide),l16] at h;cases h
   ·rw [zcf (by rw [oz HL];decide)] at h;cases h
   ·rw [g 14 (by decide)] at h;exact absurd ((oz HE).c15 ((oz HE).c14 h)) (by rw [l16];decide)
   ·rw [g 16 (by decide),l16] at h;cases h
   ·rw [zcf (by rw [oz HL];decide)] at h;cases h
   ·rw [g 18 (by decide),n18] at h;cases h
  ·refine wpOp_step rfl (fun K hK =>?_)
   clear hlt hif
   have l17:=zab hi 17 (by kernel_rfl)
   obtain ⟨v0,st,d17,_,hen⟩:=(oz HE).b1 l17
   have HR:=kz hen
   clear hen
   have hx1:=zh8 v0 (goInt st) wv
   have HN:=kz l17
   clear l17
   go_simp
   have l17:=oz HN
   refine hK _ _ ⟨zaa U 18 (goInt st),(by rw [zac d17];rfl),(oz HJ).same 18 _ trivial, ?_⟩
   have g:∀ j,j≠18→(l.setIfInBounds 18 true).getD j false=l.getD j false:=fun j hj =>getD_set_ne false (Ne.symm hj)
   have l16:l.getD 16 false=true:=by
    cases hq:l.getD 16 false with
    | true =>rfl
    | false =>exact absurd ((oz HE).c16 hq) (by rw [l17];decide)
   refine ⟨fun h =>?_,fun h =>?_,fun h =>?_,fun h =>?_,fun h =>?_,fun _ h =>?_,fun _ =>(oz HE).a2 l16,fun h =>?_,fun _ =>⟨v0,st,(by rw [zaT _ _ (show (17:Nat)≠18 by decide)];exact d17),fun _ =>zaQ _ _ _,oz HR⟩⟩
   ·rw [g 14 (by decide)] at h;rw [g 15 (by decide)];exact (oz HE).c14 h
   ·rw [g 15 (by decide)] at h;rw [g 16 (by decide)];exact (oz HE).c15 h
   ·rw [g 16 (by decide),l16] at h;cases h
   ·rw [g 17 (by decide),l17] at h;cases h
   ·rw [g 14 (by decide)] at h;exact absurd ((oz HE).c15 ((oz HE).c14 h)) (by rw [l16];decide)
   ·rw [g 16 (by decide),l16] at h;cases h
   ·rw [g 17 (by decide),l17] at h;cases h
 ·rintro l a wv ⟨U,rfl,hJ,hE⟩ hall
  have d9:U 9=.map (some M7):=hJ.val 9 (hall 9 (by decide) (by decide))
  have d13:U 13=.int .i32 x1:=hJ.val 13 (hall 13 (by decide) (by decide))
  obtain ⟨v0,st,d17,d18,hen⟩:=hE.b1 (hall 17 (by decide) (by decide))
  have d18:U 18=.int .i64 (st:Int):=d18 (hall 18 (by decide) (by decide))
  obtain ⟨w3,hr,hjo,hg⟩:=hen wv rfl
  unfold goInt at hr
  dsimp only at hr
  have HN:Hz (PaAt w3 M6 (k+1) (zs++[(x1,x2,x3)])∧JoAt w3 M7 (k+1) (zs++[(x1,x2,x3)])∧KeptX (fun g =>g=M6∨g=M7) wb.drew w3):=kz ⟨(hE.a2 (hall 16 (by decide) (by decide))).kept hg (oz HX).2.2.2.2.1,hjo,hJ.kp.trans (zeS hg (.inr rfl))⟩
  clear hJ hE hall hen hjo hg d17
  refine wpOp_step rfl (fun K hK =>?_)
  go_simp
  have e:=oz HQ U _ HN
  rw [d9,d13,d18] at e
  exact hK _ _ e
noncomputable def tail3:Code:=match Tryz.f52.body with
 | some (.seq _ (.seq _ (.seq _ (.seq _ t)))) =>t
 | _ =>.skip
noncomputable def tail2:Code:=match Tryz.f52.body with
 | some (.seq _ (.seq _ (.seq _ t))) =>t
 | _ =>.skip
theorem PaAt.lt {w:World} {M n:Nat} {zs:List (Int × Int × Int)} (h:PaAt w M n zs):M < w.heap.size:=by
 obtain ⟨G,h1,_⟩:=h.mp
 exact h1.lt
theorem JoAt.lt {w:World} {M n:Nat} {zs:List (Int × Int × Int)} (h:JoAt w M n zs):M < w.heap.size:=by
 obtain ⟨G,h1,_⟩:=h.mp
 exact h1.lt
set_option maxRecDepth 100000 in
set_option maxHeartbeats 8000000 in
theorem zkG (T:TV) (hn:T.pr.length≤1000000) (hz:∀ x ∈ T.pr,R32 x.1∧R32 x.2.1∧R32 x.2.2) {w2:World} {B P lo M6 M7 c3:Nat} {a3:Option Addr} {z0 z2 z4 z5 z6 z7 z8 z9 z10 z11 z12 z13 z14 z15 z16 z17 z18 z19 z20 z21 z22 z23 z24 z25 z26 z27 z28 z29 z30 z31 z32 z33 z34 z35 z36 z37 z38 z39 z40 z41 z42 z43 z44 z45 z46 z47 z48 z49 z50 z51 z52 z53 z54 z55 z56 z57 z58 z59 z60 z61 z62 z63 z64 z65 z66 z67 z68 z69 z70 z71 z72 z73 z74 z75 z76 z77 z78 z79 z80 z81 z82 z83 z84 z85 z86 z87 z88 z89 z90 z91 z92 z93 z94 z95 z96 z97 z98 z99 z100:Value} {Q:Exit→Act→World→Prop} (hmx:Tryz.prog.follows .mixedOrders=true)
  (hP:w2.cell? ⟨P,3,none⟩=some (.slice a3 T.pr.length c3))
  (HR:Hz (RowC w2 lo a3 (zdv T.pr)∧lo≤w2.heap.size∧lo≤M6∧lo≤M7∧M6≠M7∧B < w2.heap.size∧B≠M6∧B≠M7∧w2.cell? ⟨B,13,none⟩=some (.map (some M6))∧w2.cell? ⟨B,14,none⟩=some (.map (some M7))))
  (HM0:Hz (PaAt w2 M6 0 (T.pr.take 0)∧JoAt w2 M7 0 (T.pr.take 0)∧KeptX (fun g =>g=M6∨g=M7) w2 w2))
  (hQ:∀ (a:Act) (wn:World),a.tmps.getD 2 undef=.pointer (some ⟨B,0,none⟩)→a.defers=[]→Hz (PaAt wn M6 T.pr.length T.pr∧JoAt wn M7 T.pr.length T.pr∧KeptX (fun g =>g=M6∨g=M7) w2 wn)→Q .ret a wn) :
  Code.wp Tryz.prog tail3 Q { tmps:=#[z0,.pointer (some ⟨P,0,none⟩),z2,.pointer (some ⟨B,0,none⟩),z4,z5,z6,z7,z8,z9,z10,z11,z12,z13,z14,z15,z16,z17,z18,z19,z20,z21,z22,z23,z24,z25,z26,z27,z28,z29,z30,z31,z32,z33,z34,z35,z36,z37,z38,z39,z40,z41,z42,z43,z44,z45,z46,z47,z48,z49,z50,z51,z52,z53,z54,z55,z56,z57,z58,z59,z60,z61,z62,z63,z64,z65,z66,z67,z68,z69,z70,z71,z72,z73,z74,z75,z76,z77,z78,z79,z80,z81,z82,z83,z84,z85,z86,z87,z88,z89,z90,z91,z92,z93,z94,z95,z96,z97,z98,z99,z100],defers := [] } w2:=by
 have HQ:=kz hQ
 have HZ:=kz hz
 clear hQ hz
 delta tail3 Tryz.f52
 dsimp only
 go_wp2_with fail
 go_loopw [9,10,72] (fun _ _ s72 wr => ∃ k:Nat,k≤T.pr.length∧s72=.int .i64 k∧Hz (PaAt wr M6 k (T.pr.take k)∧JoAt wr M7 k (T.pr.take k)∧KeptX (fun g =>g=M6∨g=M7) w2 wr)) (fun _ _ s72 _ =>T.pr.length - (intOf s72).toNat)
 case atStart =>exact ⟨0,Nat.zero_le _,rfl,HM0⟩
 case round =>
  obtain ⟨k,hk,rfl,HM⟩:=hrel
  clear HM0
  by_cases hkn:k < T.pr.length
  ·obtain ⟨x,hx⟩:∃ x,T.pr[k]?=some x:=⟨_,List.getElem?_eq_getElem hkn⟩
   obtain ⟨n0,n1,n2⟩:=zc3 T.pr k x hx
   obtain ⟨g,q,rfl,hg,hc⟩:=(oz HR).1 (by have:=(List.getElem?_eq_some_iff.1 n0).1;omega)
   have hgM:¬ (g=M6∨g=M7):=by have:=(oz HR).2.2.1;have:=(oz HR).2.2.2.1;omega
   have hgw:g < w2.heap.size:=Nat.lt_of_lt_of_le hg (oz HR).2.1
   have kc0:wr.cell? ⟨g,q+k*3,none⟩=some (.int .i32 x.1):=((oz HM).2.2.cell (p:=⟨g,q+k*3,none⟩) hgw hgM).trans (hc _ _ n0)
   have kc1:wr.cell? ⟨g,q+k*3+1,none⟩=some (.int .i32 x.2.1):=((oz HM).2.2.cell (p:=⟨g,q+k*3+1,none⟩) hgw hgM).trans (hc _ _ n1)
   have kc2:wr.cell? ⟨g,q+k*3+2,none⟩=some (.int .i32 x.2.2):=((oz HM).2.2.cell (p:=⟨g,q+k*3+2,none⟩) hgw hgM).trans (hc _ _ n2)
   have HKN:Hz (k+1≤T.pr.length):=kz hkn
   have HX0:=kz (And.intro hx (oz HZ x (List.mem_of_getElem? hx)))
   have hk1:(k:Int) < (T.pr.length:Int):=by omega
   have hk2:((k:Nat):Int).toNat=k:=by omega
   have HKB:Hz (k≤1000000):=kz (by omega)
   obtain ⟨x1,x2,x3⟩:=x
   dsimp only at kc0 kc1 kc2 HX0
   have HW:Hz (Below wr.heap.size wr ((wr.alloc (.cells #[.int .i32 x1,.int .i32 x2,.int .i32 x3] 117)).alloc (.cells #[.int .i32 x2,.int .i32 x3] 134)).drew):=kz ((((Below.refl _ wr).alloc (Nat.le_refl _) _).alloc (by simp) _).trans ⟨rfl,rfl,rfl,Nat.le_refl _,fun _ _ =>rfl⟩)
   have bP:Blk ((wr.alloc (.cells #[.int .i32 x1,.int .i32 x2,.int .i32 x3] 117)).alloc (.cells #[.int .i32 x2,.int .i32 x3] 134)).drew wr.heap.size #[.int .i32 x1,.int .i32 x2,.int .i32 x3] 117:=(Blk.new wr _ _).alloc _
   have bQ:Blk ((wr.alloc (.cells #[.int .i32 x1,.int .i32 x2,.int .i32 x3] 117)).alloc (.cells #[.int .i32 x2,.int .i32 x3] 134)).drew (wr.heap.size+1) #[.int .i32 x2,.int .i32 x3] 134:=by
    have:=Blk.new (wr.alloc (.cells #[.int .i32 x1,.int .i32 x2,.int .i32 x3] 117)) #[.int .i32 x2,.int .i32 x3] 134
    rw [World.size_alloc] at this
    exact this
   have HF:Hz (∀ w3,KeptX (fun g =>g=M6∨g=M7) ((wr.alloc (.cells #[.int .i32 x1,.int .i32 x2,.int .i32 x3] 117)).alloc (.cells #[.int .i32 x2,.int .i32 x3] 134)).drew w3→w3.cell? ⟨wr.heap.size,0,none⟩=some (.int .i32 x1)∧w3.cell? ⟨wr.heap.size+1,0,none⟩=some (.int .i32 x2)∧w3.cell? ⟨wr.heap.size+1,1,none⟩=some (.int .i32 x3)∧w3.cell? ⟨B,13,none⟩=some (.map (some M6))∧w3.cell? ⟨B,14,none⟩=some (.map (some M7))):=kz (fun w3 h3 =>by
    have hm6:=(oz HM).1.lt
    have hm7:=(oz HM).2.1.lt
    obtain ⟨_,_,_,_,_,hB,hB6,hB7,hc6,hc7⟩:=oz HR
    have hBr:B < wr.heap.size:=Nat.lt_of_lt_of_le hB (oz HM).2.2.size
    have bP3:=h3.blk bP (show ¬ (wr.heap.size=M6∨wr.heap.size=M7) by omega)
    have bQ3:=h3.blk bQ (show ¬ (wr.heap.size+1=M6∨wr.heap.size+1=M7) by omega)
    have kB:∀ j,w3.cell? ⟨B,j,none⟩=w2.cell? ⟨B,j,none⟩:=fun j =>(h3.cell (p:=⟨B,j,none⟩) (Nat.lt_of_lt_of_le hBr (oz HW).size) (show ¬ (B=M6∨B=M7) by omega)).trans (((oz HW).cell (p:=⟨B,j,none⟩) hBr).trans ((oz HM).2.2.cell (p:=⟨B,j,none⟩) hB (show ¬ (B=M6∨B=M7) by omega)))
    exact ⟨bP3.cell 0,bQ3.cell 0,bQ3.cell 1,(kB 13).trans hc6,(kB 14).trans hc7⟩)
   have HX:Hz (R32 x1∧R32 x2∧R32 x3∧k≤1000000∧M6≠M7∧PaAt ((wr.alloc (.cells #[.int .i32 x1,.int .i32 x2,.int .i32 x3] 117)).alloc (.cells #[.int .i32 x2,.int .i32 x3] 134)).drew M6 k (T.pr.take k)∧JoAt ((wr.alloc (.cells #[.int .i32 x1,.int .i32 x2,.int .i32 x3] 117)).alloc (.cells #[.int .i32 x2,.int .i32 x3] 134)).drew M7 k (T.pr.take k)):=kz ⟨(oz HX0).2.1,(oz HX0).2.2.1,(oz HX0).2.2.2,oz HKB,(oz HR).2.2.2.2.1,(oz HM).1.below (oz HW),(oz HM).2.1.below (oz HW)⟩
   clear hx hc n0 n1 n2 hgM hgw hg bP bQ
   go_wp2_with fail
   generalize ((wr.alloc (.cells #[.int .i32 x1,.int .i32 x2,.int .i32 x3] 117)).alloc (.cells #[.int .i32 x2,.int .i32 x3] 134))=wb at *
   refine zkV hmx HF HX ?_
   intro U wn HN
   have hkb:k+1≤1000000:=by have:=oz HKN;omega
   have HN2:Hz (PaAt wn M6 (k+1) (T.pr.take (k+1))∧JoAt wn M7 (k+1) (T.pr.take (k+1))∧KeptX (fun g =>g=M6∨g=M7) w2 wn):=kz (by
    rw [List.take_add_one,(oz HX0).1]
    exact ⟨(oz HN).1,(oz HN).2.1,((oz HM).2.2.trans (zaw (oz HW) _)).trans (oz HN).2.2⟩)
   go_wp2_with fail
   exact ⟨⟨k+1,oz HKN,by go_num,HN2⟩,by have:=oz HKN;simp [intOf];omega⟩
  ·have hk1:¬ (k:Int) < (T.pr.length:Int):=by omega
   have HE:Hz (PaAt wr M6 T.pr.length T.pr∧JoAt wr M7 T.pr.length T.pr∧KeptX (fun g =>g=M6∨g=M7) w2 wr):=kz (by
    obtain rfl:k=T.pr.length:=by omega
    have:=oz HM
    rwa [List.take_of_length_le (Nat.le_refl _)] at this)
   clear HM
   go_wp2_with fail
   exact oz HQ _ _ rfl rfl HE
set_option maxRecDepth 100000 in
set_option maxHeartbeats 8000000 in
theorem zkH (T:TV) (hn:T.ma.length≤1000000) (hz:∀ x ∈ T.ma,R32 x.1∧-9223372036854775808≤x.2∧x.2≤9223372036854775807) {w2:World} {B P lo M5 c2:Nat} {a2:Option Addr} {z0 z2 z4 z5 z6 z7 z8 z9 z10 z11 z12 z13 z14 z15 z16 z17 z18 z19 z20 z21 z22 z23 z24 z25 z26 z27 z28 z29 z30 z31 z32 z33 z34 z35 z36 z37 z38 z39 z40 z41 z42 z43 z44 z45 z46 z47 z48 z49 z50 z51 z52 z53 z54 z55 z56 z57 z58 z59 z60 z61 z62 z63 z64 z65 z66 z67 z68 z69 z70 z71 z72 z73 z74 z75 z76 z77 z78 z79 z80 z81 z82 z83 z84 z85 z86 z87 z88 z89 z90 z91 z92 z93 z94 z95 z96 z97 z98 z99 z100:Value} {Q:Exit→Act→World→Prop} (hmx:Tryz.prog.follows .mixedOrders=true)
  (hP:w2.cell? ⟨P,2,none⟩=some (.slice a2 T.ma.length c2))
  (HR:Hz (RowC w2 lo a2 (zdQ T.ma)∧lo≤w2.heap.size∧lo≤M5∧B < w2.heap.size∧B≠M5∧w2.cell? ⟨B,12,none⟩=some (.map (some M5))))
  (HM0:Hz (ClAt w2 M5 0 (T.ma.take 0)∧KeptX (fun g =>g=M5) w2 w2))
  (hQ:∀ (v7 v53 v54 v55 v56 v57 v58 v59 v60 v61 v62 v63 v64 v65 v66 v67 v68:Value) (wn:World),Hz (ClAt wn M5 T.ma.length T.ma∧KeptX (fun g =>g=M5) w2 wn)→Code.wp Tryz.prog tail3 Q { tmps:=#[z0,.pointer (some ⟨P,0,none⟩),z2,.pointer (some ⟨B,0,none⟩),z4,z5,z6,v7,z8,z9,z10,z11,z12,z13,z14,z15,z16,z17,z18,z19,z20,z21,z22,z23,z24,z25,z26,z27,z28,z29,z30,z31,z32,z33,z34,z35,z36,z37,z38,z39,z40,z41,z42,z43,z44,z45,z46,z47,z48,z49,z50,z51,z52,v53,v54,v55,v56,v57,v58,v59,v60,v61,v62,v63,v64,v65,v66,v67,v68,z69,z70,z71,z72,z73,z74,z75,z76,z77,z78,z79,z80,z81,z82,z83,z84,z85,z86,z87,z88,z89,z90,z91,z92,z93,z94,z95,z96,z97,z98,z99,z100],defers := [] } wn) :
  Code.wp Tryz.prog tail2 Q { tmps:=#[z0,.pointer (some ⟨P,0,none⟩),z2,.pointer (some ⟨B,0,none⟩),z4,z5,z6,z7,z8,z9,z10,z11,z12,z13,z14,z15,z16,z17,z18,z19,z20,z21,z22,z23,z24,z25,z26,z27,z28,z29,z30,z31,z32,z33,z34,z35,z36,z37,z38,z39,z40,z41,z42,z43,z44,z45,z46,z47,z48,z49,z50,z51,z52,z53,z54,z55,z56,z57,z58,z59,z60,z61,z62,z63,z64,z65,z66,z67,z68,z69,z70,z71,z72,z73,z74,z75,z76,z77,z78,z79,z80,z81,z82,z83,z84,z85,z86,z87,z88,z89,z90,z91,z92,z93,z94,z95,z96,z97,z98,z99,z100],defers := [] } w2:=by
 have HQ:=kz hQ
 have HZ:=kz hz
 clear hQ hz
 delta tail2 Tryz.f52
 dsimp only
 refine wp_seq_k (fun K hK =>?_)
 have HK:=kz hK
 clear hK
 go_wp2_with fail
 go_loopw [7,56] (fun _ s56 wr => ∃ k:Nat,k≤T.ma.length∧s56=.int .i64 k∧Hz (ClAt wr M5 k (T.ma.take k)∧KeptX (fun g =>g=M5) w2 wr)) (fun _ s56 _ =>T.ma.length - (intOf s56).toNat)
 case atStart =>exact ⟨0,Nat.zero_le _,rfl,HM0⟩
 case round =>
  obtain ⟨k,hk,rfl,HM⟩:=hrel
  clear HM0
  by_cases hkn:k < T.ma.length
  ·obtain ⟨x,hx⟩:∃ x,T.ma[k]?=some x:=⟨_,List.getElem?_eq_getElem hkn⟩
   obtain ⟨n0,n1⟩:=zfU T.ma k x hx
   obtain ⟨g,q,rfl,hg,hc⟩:=(oz HR).1 (by have:=(List.getElem?_eq_some_iff.1 n0).1;omega)
   have hgM:¬ g=M5:=by have:=(oz HR).2.2.1;omega
   have hgw:g < w2.heap.size:=Nat.lt_of_lt_of_le hg (oz HR).2.1
   have kc0:wr.cell? ⟨g,q+k*2,none⟩=some (.int .i32 x.1):=((oz HM).2.cell (p:=⟨g,q+k*2,none⟩) hgw hgM).trans (hc _ _ n0)
   have kc1:wr.cell? ⟨g,q+k*2+1,none⟩=some (.int .i64 x.2):=((oz HM).2.cell (p:=⟨g,q+k*2+1,none⟩) hgw hgM).trans (hc _ _ n1)
   have HKN:Hz (k+1≤T.ma.length):=kz hkn
   have HX0:=kz hx
   have HX:=kz (And.intro (oz HZ x (List.mem_of_getElem? hx)).1 (And.intro (oz HZ x (List.mem_of_getElem? hx)).2.1 (And.intro (oz HZ x (List.mem_of_getElem? hx)).2.2 (show k≤1000000 by omega))))
   have hk1:(k:Int) < (T.ma.length:Int):=by omega
   have hk2:((k:Nat):Int).toNat=k:=by omega
   obtain ⟨m1,m2⟩:=x
   dsimp only at kc0 kc1 HX HX0
   have HB2:Hz (Below wr.heap.size wr (wr.alloc (.cells #[.int .i32 m1,.int .i64 m2] 115)).drew):=kz (((Below.refl _ wr).alloc (Nat.le_refl _) _).trans ⟨rfl,rfl,rfl,Nat.le_refl _,fun _ _ =>rfl⟩)
   have bM:Blk (wr.alloc (.cells #[.int .i32 m1,.int .i64 m2] 115)).drew wr.heap.size #[.int .i32 m1,.int .i64 m2] 115:=Blk.new wr _ _
   have HF:Hz (∀ w3,KeptX (fun _ =>False) (wr.alloc (.cells #[.int .i32 m1,.int .i64 m2] 115)).drew w3→Blk w3 wr.heap.size #[.int .i32 m1,.int .i64 m2] 115∧w3.cell? ⟨B,12,none⟩=some (.map (some M5))∧ClAt w3 M5 k (T.ma.take k)):=kz (fun w3 h3 =>by
    obtain ⟨_,_,_,hB,hB5,hc5⟩:=oz HR
    have hBr:B < wr.heap.size:=Nat.lt_of_lt_of_le hB (oz HM).2.size
    exact ⟨bM.below h3.below bM.lt,(h3.below.cell (p:=⟨B,12,none⟩) (Nat.lt_of_lt_of_le hBr (oz HB2).size)).trans (((oz HB2).cell (p:=⟨B,12,none⟩) hBr).trans (((oz HM).2.cell (p:=⟨B,12,none⟩) hB hB5).trans hc5)),((oz HM).1.below (oz HB2)).below h3.below⟩)
   clear hx hc n0 n1 hgM hgw hg bM
   go_wp2_with fail
   generalize (wr.alloc (.cells #[.int .i32 m1,.int .i64 m2] 115))=wb at *
   refine zkX hmx HF HX ?_
   intro U wn HN
   have hkb:k+1≤1000000:=by have:=oz HKN;omega
   have HN2:Hz (ClAt wn M5 (k+1) (T.ma.take (k+1))∧KeptX (fun g =>g=M5) w2 wn):=kz ⟨by rw [List.take_add_one,oz HX0];exact (oz HN).1,((oz HM).2.trans (zaw (oz HB2) _)).trans (oz HN).2⟩
   go_wp2_with fail
   exact ⟨⟨k+1,oz HKN,by go_num,HN2⟩,by have:=oz HKN;simp [intOf];omega⟩
  ·have hk1:¬ (k:Int) < (T.ma.length:Int):=by omega
   have HE:Hz (ClAt wr M5 T.ma.length T.ma∧KeptX (fun g =>g=M5) w2 wr):=kz (by
    obtain rfl:k=T.ma.length:=by omega
    have:=oz HM
    rwa [List.take_of_length_le (Nat.le_refl _)] at this)
   clear HM
   go_wp2_with fail
   exact oz HK _ _ (oz HQ _ _ _ _ _ _ _ _ _ _ _ _ _ _ _ _ _ _ HE)
end Go.Proofs.YtmemedpoaocdkaaGreat
