/- The reference's reader of rules: mark, pair. -/
import Derived.Test.YtmdgejgokoadlaaGreatDoorRrI
import Derived.Test.YtmdgejgokoadlaaGreatDoorM11
namespace Go.Proofs.YtmdgejgokoadlaaGreatDoor
open Go.RowKit Go.Shelf
set_option linter.unusedVariables false
theorem field_r6n (a:Int) (b:ByteArray) (c d e f:Int) (w:World):(Instr.field 123 (.agg #[.int .i64 a,.string b,.int .i32 c,.int .i64 d,.int .i64 e,.int .i64 f]) 3).run Tryz.prog w=.ok (.int .i64 d) w:=by kernel_rfl
/-- A rule that lays down a row: wa: the world ahead of the row's box. -/
structure RrQ (W0 wa w:World) (lo R g:Nat) (a:Option Addr) (c:Nat) (ws:List W8) (k:Nat) (bi:Int) (vs:List Value) (ls:List Ln) (M:Nat) (x:W8) (B:Nat) (cs:Array Value) (ty:Nat):Prop where
 h0:∃ k0 b0,RrAt wa lo R g a c ws k0 b0 vs ls
 rs:RrS wa w lo R g a c ws k bi vs ls
 fr:Fr lo R R W0 wa
 bx:Blk w M #[.int .i64 x.k,.string x.S,.int .i32 x.r,.int .i64 x.n,.int .i64 x.b,.int .i64 x.e] 123
 ml:lo≤M
 mw:M < wa.heap.size
 bb:Blk w B cs ty
 hB:wa.heap.size≤B
theorem RrQ.call {W0 wa w w':World} {lo R g:Nat} {a:Option Addr} {c:Nat} {ws:List W8} {k k':Nat} {bi bi':Int} {vs:List Value} {ls:List Ln} {M:Nat} {x:W8} {B:Nat} {cs:Array Value} {ty:Nat} (h:RrQ W0 wa w lo R g a c ws k bi vs ls M x B cs ty) (h2:RrAt w' lo R g a c ws k' bi' vs ls) (hg:w.grownBy w' (some R)):RrQ W0 wa w' lo R g a c ws k' bi' vs ls M x B cs ty:=by
 obtain ⟨k0,b0,h00⟩:=h.h0
 have hR:=h00.blk.lt
 have hl:=h00.lt
 exact ⟨⟨k0,b0,h00⟩,h.rs.call h2 hg,h.fr,h.bx.kept hg (fun e =>by have h1:=Option.some.inj e;have:=h.ml;omega),h.ml,h.mw,h.bb.kept hg (fun e =>by have h1:=Option.some.inj e;have:=h.hB;omega),h.hB⟩
theorem RrQ.store {W0 wa w:World} {lo R g:Nat} {a:Option Addr} {c:Nat} {ws:List W8} {k:Nat} {bi:Int} {vs:List Value} {ls:List Ln} {M:Nat} {x:W8} {B:Nat} {cs:Array Value} {ty:Nat} (h:RrQ W0 wa w lo R g a c ws k bi vs ls M x B cs ty) (i:Nat) (v:Value):RrQ W0 wa (w.setCell ⟨B,i,none⟩ v) lo R g a c ws k bi vs ls M x B (cs.setIfInBounds i v) ty:=by
 obtain ⟨k0,b0,h00⟩:=h.h0
 exact ⟨⟨k0,b0,h00⟩,h.rs.new h00 B i v h.hB,h.fr,h.bx.kept (zad w B i v) (fun e =>by have h1:=Option.some.inj e;have:=h.mw;have:=h.hB;omega),h.ml,h.mw,h.bb.set i v,h.hB⟩
theorem RrQ.start {W0 wa:World} {lo R g:Nat} {a:Option Addr} {c:Nat} {ws:List W8} {k:Nat} {bi:Int} {vs:List Value} {ls:List Ln} {M:Nat} {x:W8} (h:RrW W0 wa lo R g a c ws k bi vs ls M x) (cs:Array Value) (ty:Nat):RrQ W0 wa (wa.alloc (.cells cs ty)) lo R g a c ws k bi vs ls M x wa.heap.size cs ty :=
 have hb:Below wa.heap.size wa (wa.alloc (.cells cs ty)):=(Below.refl _ _).alloc (Nat.le_refl _) _
 ⟨⟨k,bi,h.at_⟩,(RrS.start h.at_).below hb,h.fr,h.bx.below hb h.bx.lt,h.ml,h.bx.lt,Blk.new wa cs ty,Nat.le_refl _⟩
theorem RrQ.toW {W0 wa w:World} {lo R g:Nat} {a:Option Addr} {c:Nat} {ws:List W8} {k:Nat} {bi:Int} {vs:List Value} {ls:List Ln} {M:Nat} {x:W8} {B:Nat} {cs:Array Value} {ty:Nat} (h:RrQ W0 wa w lo R g a c ws k bi vs ls M x B cs ty):RrW W0 w lo R g a c ws k bi vs ls M x:=by
 obtain ⟨k0,b0,h00⟩:=h.h0
 exact ⟨h.rs.at_,h.fr.trans (Fr.grown h00.lw h.rs.gr (fun b e =>.inl (Option.some.inj e).symm)),h.bx,h.ml⟩
set_option maxRecDepth 100000 in
set_option maxHeartbeats 8000000 in
theorem zld (lo R g:Nat) (a:Option Addr) (c:Nat) (ws:List W8) (k:Nat) (eb el ec:Int) (vs:List Value) (ls:List Ln) (x:W8) (hx:ws[k]?=some x) (hxk:x.k=1) (hS:x.S=⟨#[109,97,114,107]⟩) (v1 v2:Value) (n1 n2:Nat) (xs1 xs2:List Value) (hn1:n1≤1000000) (hn2:n2≤1000000) (hv1:vs[2]?=some v1) (hl1:ls[2]?=some ⟨93,2,n1,xs1⟩) (hv2:vs[11]?=some v2) (hl2:ls[11]?=some ⟨3,1,n2,xs2⟩) (W:World) (h:RrAt W lo R g a c ws k (-1) vs ls) :
  Calls Tryz.prog 47 #[.pointer (some ⟨R,0,none⟩)] W fun e w' =>(∃ r,e=.returned r)∧(∃ (v1' v2':Value) (b2:Int),BadR ws (zcn ws (k+1) none eb el ec).k eb el ec b2 (zcn ws (k+1) none eb el ec).bad∧RrAt w' lo R g a c ws (zcn ws (k+1) none eb el ec).k b2 ((vs.set 2 v1').set 11 v2') ((ls.set 2 ⟨93,2,n1+1,xs1++[.int .i32 (zcn ws (k+1) none eb el ec).on,.int .i64 (zcn ws (k+1) none eb el ec).cl]⟩).set 11 ⟨3,1,n2+1,xs2++[.int .i64 x.b]⟩))∧Fr lo R R W w':=by
 have hmx:Tryz.prog.follows .mixedOrders=true:=by kernel_rfl
 have hlt:=(List.getElem?_eq_some_iff.1 hx).1
 have hnm:=h.nmax
 have hcap:=h.cap
 have hRW:=h.blk.lt
 have hRl:=h.lt
 have hlw:=h.lw
 obtain ⟨rfl,hgl,hgR⟩:=h.ptr (by omega)
 have hs:zaJ ws k none 1=true:=by unfold zaJ;rw [hx];show (x.k == 1)=true;rw [hxk];rfl
 have HC:=kz (zb3 lo R g (some ⟨g,0,none⟩) c ws k (-1) none eb el ec 1 vs ls W h rfl)
 rw [hs] at HC
 have H:=kz h
 have HX:=kz hx
 have HSX:=kz hS
 obtain ⟨T0,hT0⟩:∃ T,T=zaa ws (k+1) none eb el ec 3:=⟨_,rfl⟩
 obtain ⟨T1,hT1⟩:∃ T,T=zaa ws T0.k T0.bad eb el ec 2:=⟨_,rfl⟩
 obtain ⟨T2,hT2⟩:∃ T,T=zaa ws T1.k T1.bad eb el ec 6:=⟨_,rfl⟩
 have HV:Hz (zcn ws (k+1) none eb el ec=⟨T0.x.r,T1.x.n,T2.k,T2.bad⟩):=kz (by rw [hT2,hT1,hT0];rfl)
 generalize zcn ws (k+1) none eb el ec=SV at *
 have E0:=kz hT0
 have E1:=kz hT1
 have E2:=kz hT2
 clear hT0 hT1 hT2
 obtain ⟨x1,k1,bad1⟩:=T0
 obtain ⟨x2,k2,bad2⟩:=T1
 obtain ⟨x3,k3,bad3⟩:=T2
 dsimp only at HV E0 E1 E2
 clear h hs hx hxk hS
 go_enter Tryz.func47,Tryz.ntmps47
 go_wp2_with fail
 refine (oz HC).mono ?_
 rintro e w1 ⟨rfl,hb1⟩
 have H1:=kz ((oz H).below hb1)
 have HFR1:Hz (Fr lo R R W w1):=kz ⟨hb1.os,hb1.tape,hb1.output,hb1.size,fun j hj _ _ =>hb1.block j (by omega)⟩
 have hlw1:lo≤w1.heap.size:=(oz H1).lw
 clear HC hb1
 go_wp2_with fail
 have HF:Hz (∀ w,Below w1.heap.size w1.drew w→w.cell? ⟨R,0,none⟩=some (.slice (some ⟨g,0,none⟩) ws.length c)∧w.cell? ⟨R,1,none⟩=some (.int .i64 (k:Int))∧∀ i u,(r6 x)[i]?=some u→w.cell? ⟨g,k*6+i,none⟩=some u):=kz (fun w hb =>by
  have h2:=(oz H1).below ((Below.refl _ _).drew.trans hb)
  exact ⟨h2.cells.1,h2.cells.2.1,fun i u hu =>h2.words k x (oz HX) i u hu⟩)
 refine za3 hmx 11 (by decide) (by kernel_rfl) (by kernel_rfl) (fun l a w => ∃ U:Nat→Value,a = { tmps:=#[.pointer (some ⟨R,0,none⟩),undef,U 10,undef,undef,undef,undef,undef,undef,undef,undef,undef,undef,undef,.pointer (some ⟨R,0,none⟩),.bool true,.bool false,undef,undef,U 0,U 1,U 2,U 3,U 4,U 5,U 6,U 7,U 8,U 9,undef,undef,undef,undef,undef,undef,undef,undef,undef,undef,undef,undef,undef,undef,undef,undef,undef,undef,undef,undef,undef,undef,undef,undef,undef,undef,undef,undef,undef,undef,undef,undef,undef,undef,undef,undef,undef,undef,undef,undef,undef,undef,undef,undef,undef,undef,undef,undef,undef,undef,undef,undef,undef,undef,undef,undef,undef,undef,undef,undef,undef,undef,undef,undef,undef,undef,undef,undef,undef,undef,undef,undef,undef,undef,undef,undef,undef,undef,undef,undef,undef,undef,undef,undef,undef,undef,undef,undef,undef,undef,undef,undef,undef,undef,undef,undef,undef,undef,undef,undef,undef,undef,undef,undef,undef,undef,undef,undef,undef,undef,undef,undef,undef,undef,undef,undef,undef,undef,undef,undef,undef,undef,undef,undef,undef,undef,undef,undef,undef,undef,undef,undef,undef,undef,undef,undef,undef,undef,undef,undef,undef,undef,undef,undef,undef,undef,undef,undef,undef,undef,undef,undef,undef,undef,undef,undef,undef,undef,undef,undef,undef,undef,undef,undef,undef,undef,undef,undef,undef,undef,undef,undef,undef,undef,undef,undef,undef,undef,undef,undef,undef,undef,undef,undef,undef,undef,undef,undef,undef,undef,undef,undef,undef,undef,undef,undef,undef,undef,undef,undef,undef,undef,undef,undef,undef,undef,undef,undef,undef,undef,undef,undef,undef,undef,undef,undef,undef,undef,undef,undef,undef,undef,undef,undef,undef,undef,undef,undef,undef,undef,undef,undef,undef,undef,undef,undef,undef,undef,undef],defers := [] }∧RgJ (w1.drew) (w1.heap.size) (ruD R g ws.length c k w1.heap.size x) ruDM l U w) ⟨fun _ =>undef,rfl,RgJ.start _ _ (Nat.le_refl _)⟩ ?_ ?_
 ·rintro l a w i ⟨U,rfl,hJ⟩ hl hi hif
  have h0:=(mem_ready.1 hi).1
  have hlt:=zhw hl h0
  have HJ:=kz hJ
  clear hJ hl
  replace hlt:i < 12:=hlt
  obtain rfl | rfl | rfl | rfl | rfl | rfl | rfl | rfl | rfl | rfl | rfl:i=0∨i=1∨i=2∨i=3∨i=4∨i=5∨i=6∨i=7∨i=8∨i=9∨i=10:=by omega
  ·refine wpOp_step rfl (fun K hK =>?_)
   clear hlt hif
   go_simp
   exact hK _ _ ⟨zae U 0 _,rfl,(oz HJ).put 0 _ h0 (Below.refl _ _) (zak (Below.refl _ _)) rfl zal (fun h =>absurd h (by decide))⟩
  ·refine wpOp_step rfl (fun K hK =>?_)
   clear hlt hif
   have d0:U 0=.pointer (some ⟨R,0,none⟩):=(oz HJ).val 0 (zar hi 0 (by kernel_rfl))
   go_simp
   exact hK _ _ ⟨zae U 1 _,(by rw [zaq d0];rfl),(oz HJ).put 1 _ h0 (Below.refl _ _) (zak (Below.refl _ _)) rfl zal (fun h =>absurd h (by decide))⟩
  ·refine wpOp_step rfl (fun K hK =>?_)
   clear hlt hif
   have d1:U 1=.pointer (some ⟨R,0,none⟩):=(oz HJ).val 1 (zar hi 1 (by kernel_rfl))
   go_simp
   exact hK _ _ ⟨zae U 2 _,(by rw [zaq d1];rfl),(oz HJ).put 2 _ h0 (Below.refl _ _) (zak (Below.refl _ _)) rfl zal (fun h =>absurd h (by decide))⟩
  ·refine wpOp_step rfl (fun K hK =>?_)
   clear hlt hif
   have d2:U 2=.pointer (some ⟨R,0,none⟩):=(oz HJ).val 2 (zar hi 2 (by kernel_rfl))
   have q:=(oz HF w (oz HJ).bel).1
   go_simp
   exact hK _ _ ⟨zae U 3 _,(by rw [zaq d2];rfl),(oz HJ).put 3 _ h0 (Below.refl _ _) (zak (Below.refl _ _)) rfl zal (fun h =>absurd h (by decide))⟩
  ·refine wpOp_step rfl (fun K hK =>?_)
   clear hlt hif
   go_simp
   exact hK _ _ ⟨zae U 4 _,rfl,(oz HJ).put 4 _ h0 (Below.refl _ _) (zak (Below.refl _ _)) rfl zal (fun h =>absurd h (by decide))⟩
  ·refine wpOp_step rfl (fun K hK =>?_)
   clear hlt hif
   have d4:U 4=.pointer (some ⟨R,0,none⟩):=(oz HJ).val 4 (zar hi 4 (by kernel_rfl))
   go_simp
   exact hK _ _ ⟨zae U 5 _,(by rw [zaq d4];rfl),(oz HJ).put 5 _ h0 (Below.refl _ _) (zak (Below.refl _ _)) rfl zal (fun h =>absurd h (by decide))⟩
  ·refine wpOp_step rfl (fun K hK =>?_)
   clear hlt hif
   have d5:U 5=.pointer (some ⟨R,0,none⟩):=(oz HJ).val 5 (zar hi 5 (by kernel_rfl))
   go_simp
   exact hK _ _ ⟨zae U 6 _,(by rw [zaq d5];rfl),(oz HJ).put 6 _ h0 (Below.refl _ _) (zak (Below.refl _ _)) rfl zal (fun h =>absurd h (by decide))⟩
  ·refine wpOp_step rfl (fun K hK =>?_)
   clear hlt hif
   have d6:U 6=.pointer (some ⟨R,1,none⟩):=(oz HJ).val 6 (zar hi 6 (by kernel_rfl))
   have q:=(oz HF w (oz HJ).bel).2.1
   go_simp
   exact hK _ _ ⟨zae U 7 _,(by rw [zaq d6];rfl),(oz HJ).put 7 _ h0 (Below.refl _ _) (zak (Below.refl _ _)) rfl zal (fun h =>absurd h (by decide))⟩
  ·refine wpOp_step rfl (fun K hK =>?_)
   clear hlt hif
   have d3:U 3=.slice (some ⟨g,0,none⟩) ws.length c:=(oz HJ).val 3 (zar hi 3 (by kernel_rfl))
   have d7:U 7=.int .i64 (k:Int):=(oz HJ).val 7 (zar hi 7 (by kernel_rfl))
   have i0:(0:Int)≤(k:Int):=by omega
   have i1:(k:Int) < (ws.length:Int):=by omega
   go_simp
   exact hK _ _ ⟨zae U 8 _,(by rw [zaq d3,zaq d7];rfl),(oz HJ).put 8 _ h0 (Below.refl _ _) (zak (Below.refl _ _)) rfl zal (fun h =>absurd h (by decide))⟩
  ·refine wpOp_step rfl (fun K hK =>?_)
   clear hlt hif
   have d8:U 8=.pointer (some ⟨g,k*6,none⟩):=(oz HJ).val 8 (zar hi 8 (by kernel_rfl))
   have q0:w.cell? ⟨g,k*6,none⟩=some (.int .i64 x.k):=(oz HF w (oz HJ).bel).2.2 0 _ rfl
   have q1:w.cell? ⟨g,k*6+1,none⟩=some (.string x.S):=(oz HF w (oz HJ).bel).2.2 1 _ rfl
   have q2:w.cell? ⟨g,k*6+2,none⟩=some (.int .i32 x.r):=(oz HF w (oz HJ).bel).2.2 2 _ rfl
   have q3:w.cell? ⟨g,k*6+3,none⟩=some (.int .i64 x.n):=(oz HF w (oz HJ).bel).2.2 3 _ rfl
   have q4:w.cell? ⟨g,k*6+4,none⟩=some (.int .i64 x.b):=(oz HF w (oz HJ).bel).2.2 4 _ rfl
   have q5:w.cell? ⟨g,k*6+5,none⟩=some (.int .i64 x.e):=(oz HF w (oz HJ).bel).2.2 5 _ rfl
   go_simp
   exact hK _ _ ⟨zae U 9 _,(by rw [zaq d8];rfl),(oz HJ).put 9 _ h0 (Below.refl _ _) (zak (Below.refl _ _)) rfl zal (fun h =>absurd h (by decide))⟩
  ·refine wpOp_step rfl (fun K hK =>?_)
   clear hlt hif
   go_simp
   exact hK _ _ ⟨zae U 10 _,rfl,(oz HJ).put 10 _ h0 ((Below.refl _ _).alloc (Nat.le_refl _) _) (zak ((Below.refl _ _).alloc (Nat.le_refl _) _)) ⟨w.heap.size,rfl,(oz HJ).sz,Blk.new w _ _⟩ zal (fun h =>absurd h (by decide))⟩
 ·rintro l a w ⟨U,rfl,hJ⟩ hall
  have hv:U 9=.agg #[.int .i64 x.k,.string x.S,.int .i32 x.r,.int .i64 x.n,.int .i64 x.b,.int .i64 x.e]:=hJ.val 9 (hall 9 (by decide) (by decide))
  obtain ⟨M,hp,hbkn,hbk⟩:=hJ.val 10 (hall 10 (by decide) (by decide))
  have hbj:=hJ.bel
  have hsj:=hJ.sz
  clear hJ hall
  have H2:=kz ((oz H1).below ((Below.refl _ _).drew.trans hbj))
  have hMR:M≠R:=by omega
  have hML:w1.heap.size≤M:=hbkn
  have HW3:Hz (∀ w9,w9=(((((((w.setCell ⟨M,0,none⟩ (.int .i64 x.k)).setCell ⟨M,1,none⟩ (.string x.S)).setCell ⟨M,2,none⟩ (.int .i32 x.r)).setCell ⟨M,3,none⟩ (.int .i64 x.n)).setCell ⟨M,4,none⟩ (.int .i64 x.b)).setCell ⟨M,5,none⟩ (.int .i64 x.e))).setCell ⟨R,1,none⟩ (.int .i64 ((k:Int)+1))→RrW W w9 lo R g (some ⟨g,0,none⟩) c ws (k+1) (-1) vs ls M x):=kz (fun w9 e =>by
   subst e
   have hb2:Below w1.heap.size w1 w:=(Below.refl _ _).drew.trans hbj
   have g1:w1.grownBy w (some R):=⟨hb2.os,hb2.tape,hb2.output,hb2.size,fun i hi _ =>hb2.block i hi⟩
   have g2:=zby g1 M hML (.int .i64 x.k) (.string x.S) (.int .i32 x.r) (.int .i64 x.n) (.int .i64 x.b) (.int .i64 x.e)
   have s2:RrS w1 _ lo R g (some ⟨g,0,none⟩) c ws k (-1) vs ls:=⟨(oz H1).upd g2 (oz H1).kn (zbg ((oz H2).blk) (Ne.symm hMR) (.int .i64 x.k) (.string x.S) (.int .i32 x.r) (.int .i64 x.n) (.int .i64 x.b) (.int .i64 x.e)),g2⟩
   have s3:=s2.next (by omega)
   have b3:=(box6 hbk (.int .i64 x.k) (.string x.S) (.int .i32 x.r) (.int .i64 x.n) (.int .i64 x.b) (.int .i64 x.e)).kept (zad _ R 1 (.int .i64 ((k:Int)+1))) (fun e =>hMR (Option.some.inj e))
   exact ⟨s3.at_,(oz HFR1).trans (Fr.grown (oz H1).lw s3.gr (fun b e =>.inl (Option.some.inj e).symm)),b3,by omega⟩)
  have e0:=hbk.cell 0
  have e1:=hbk.cell 1
  have e2:=hbk.cell 2
  have e3:=hbk.cell 3
  have e4:=hbk.cell 4
  have e5:=hbk.cell 5
  have f0:=hbk.frozen 0
  have f1:=hbk.frozen 1
  have f2:=hbk.frozen 2
  have f3:=hbk.frozen 3
  have f4:=hbk.frozen 4
  have f5:=hbk.frozen 5
  have HR5:Hz (Blk (((((((w.setCell ⟨M,0,none⟩ (.int .i64 x.k)).setCell ⟨M,1,none⟩ (.string x.S)).setCell ⟨M,2,none⟩ (.int .i32 x.r)).setCell ⟨M,3,none⟩ (.int .i64 x.n)).setCell ⟨M,4,none⟩ (.int .i64 x.b)).setCell ⟨M,5,none⟩ (.int .i64 x.e))) R (zbm (some ⟨g,0,none⟩) ws.length c k (-1) vs) 121):=kz (zbg ((oz H2).blk) (Ne.symm hMR) (.int .i64 x.k) (.string x.S) (.int .i32 x.r) (.int .i64 x.n) (.int .i64 x.b) (.int .i64 x.e))
  have hRM:R≠M:=Ne.symm hMR
  have hk1:k≤1000000:=by omega
  have HBK:=kz hbk
  clear hbj hsj hbk H2 H1 HFR1 HF
  refine wpOp_step rfl (fun K hK =>?_)
  go_simp
  refine hK _ _ ?_
  clear hK K e0 e1 e2 e3 e4 e5 f0 f1 f2 f3 f4 f5
  generalize ((((((w.setCell _ _).setCell _ _).setCell _ _).setCell _ _).setCell _ _).setCell _ _)=w5 at *
  have r1:w5.cell? ⟨R,1,none⟩=some (.int .i64 (k:Int)):=(oz HR5).cell 1
  have rf:=(oz HR5).frozen 1
  have y1:(w5.setCell ⟨R,1,none⟩ (.int .i64 ((k:Int)+1))).cell? ⟨M,1,none⟩=some (.string ⟨#[109,97,114,107]⟩):=by
   have h5:=(oz HW3 _ rfl).bx.cell 1
   rw [h5]
   show some (Value.string x.S)=_
   rw [oz HSX]
  clear HBK HSX hv hp hRM hMR
  go_wp2_with fail
  have H6:=kz (oz HW3 _ rfl)
  clear HW3 y1 r1 rf HR5
  generalize w5.setCell ⟨R,1,none⟩ _=w6 at *
  have HC:=kz (zaE lo R g (some ⟨g,0,none⟩) c ws (k+1) (-1) none eb el ec 3 vs ls w6 (oz H6).at_ rfl)
  rw [← oz E0] at HC
  dsimp only at HC
  unfold r6V at HC
  refine (oz HC).mono ?_
  rintro e w7 ⟨rfl,⟨b1,hB1,hR1⟩,hg1⟩
  have HB1:=kz hB1
  have Q7:=kz (RrQ.start ((oz H6).call hR1 hg1) #[.int .i32 x1.r,.int .i64 0] 93)
  have hf:=zcD x1.k x1.S x1.r x1.n x1.b x1.e
  clear HC hR1 hg1 hB1 H6
  go_wp2_with fail
  clear hf
  generalize w7.alloc _=w8 at *
  generalize hBB:w7.heap.size=B at *
  clear hBB
  have Q8:=Q7
  have HC:=kz (zaE lo R g (some ⟨g,0,none⟩) c ws k1 b1 bad1 eb el ec 2 vs ls w8 (oz Q8).rs.at_ (oz HB1))
  rw [← oz E1] at HC
  dsimp only at HC
  unfold r6V at HC
  go_wp2_with fail
  refine (oz HC).mono ?_
  rintro e w9 ⟨rfl,⟨b2,hB2,hR2⟩,hg2⟩
  have HB2:=kz hB2
  have Q9:=kz ((oz Q8).call hR2 hg2)
  clear HC hR2 hg2 hB2
  have e1:=(oz Q9).bb.cell 1
  have f1:=(oz Q9).bb.frozen 1
  have hf:=field_r6n x2.k x2.S x2.r x2.n x2.b x2.e
  have Q10:=kz ((oz Q9).store 1 (.int .i64 x2.n))
  go_wp2_with fail
  clear e1 f1 hf
  generalize w9.setCell _ _=w10 at *
  obtain ⟨is,his,hs0,hs1,hs2⟩:=info_parts zhH
  have HIS:=kz (And.intro his (And.intro hs0 (And.intro hs1 hs2)))
  clear his hs0 hs1 hs2
  have HV2:Hz (∀ v1',(vs.set 2 v1')[11]?=some v2):=kz (fun v1' =>by rw [List.getElem?_set_ne (by decide)];exact hv2)
  have HL2:Hz (∀ l1,(ls.set 2 l1)[11]?=some ⟨3,1,n2,xs2⟩):=kz (fun l1 =>by rw [List.getElem?_set_ne (by decide)];exact hl2)
  have HW:=kz (oz Q10).toW
  have hbA:Below w10.heap.size w10 (w10.alloc (.cells #[.int .i32 x1.r,.int .i64 x2.n] 93)):=(Below.refl _ _).alloc (Nat.le_refl _) _
  have HA:=kz ((oz HW).call ((oz HW).at_.below hbA) ⟨hbA.os,hbA.tape,hbA.output,hbA.size,fun i hi _ =>hbA.block i hi⟩)
  have how1:=(oz HW).at_.own _ _ _ hv1 hl1
  obtain ⟨va1,vc1,rfl⟩:=zab how1
  have howA:=(oz HA).at_.own _ _ _ hv1 hl1
  have HN:=kz (Blk.new w10 #[.int .i32 x1.r,.int .i64 x2.n] 93)
  have t1:w10.cell? ⟨R,5,none⟩=some (.slice va1 n1 vc1):=(oz HW).at_.cell (by omega) hv1
  have s1:(w10.alloc (.cells #[.int .i32 x1.r,.int .i64 x2.n] 93)).cell? ⟨R,5,none⟩=some (.slice va1 n1 vc1):=(oz HA).at_.cell (by omega) hv1
  have HG1:Hz (∀ b,Value.ownBlock (.slice va1 n1 vc1)=some b→lo≤b):=kz (zam how1)
  have hRne:some R≠Value.ownBlock (.slice va1 n1 vc1):=fun e =>by have:=oz HG1 R e.symm;omega
  have hlww:lo≤w10.heap.size:=(oz HW).at_.lw
  have HHL:=kz (And.intro hv1 hl1)
  have m0:w10.cell? ⟨B,0,none⟩=some (.int .i32 x1.r):=(oz Q10).bb.cell 0
  have m1:w10.cell? ⟨B,1,none⟩=some (.int .i64 x2.n):=(oz Q10).bb.cell 1
  have HNW:Hz (∀ j u,([.int .i32 x1.r,.int .i64 x2.n] : List Value)[j]?=some u→(w10.alloc (.cells #[.int .i32 x1.r,.int .i64 x2.n] 93)).drew.cell? ((⟨w10.heap.size,0,none⟩:Addr).add j)=some u):=kz (fun j u hj =>by
   have e:=(oz HN).cell j
   rw [List.getElem?_toArray,hj] at e
   have ea:(⟨w10.heap.size,0,none⟩:Addr).add j=⟨w10.heap.size,j,none⟩:=by cases j <;> simp [Addr.add]
   rw [ea]
   exact e)
  clear hbA how1 hv2 hl2 Q10 HW
  go_region_law (refine step_append_lies _ (by rfl) _ _ _ (by rfl) lo 93 is (.agg #[.int .i32 0,.int .i64 0]) 2 16 Tryz.underlying29 (oz HIS).1 (oz HIS).2.1 (oz HIS).2.2.1 (oz HIS).2.2.2 rfl (by omega) _ n1 xs1 (by rfl) howA.drew ⟨w10.heap.size,0,none⟩ 1 1 [.int .i32 x1.r,.int .i64 x2.n] (by rfl) (by simp) (oz HNW) (by intro u hu;simp at hu;rcases hu with rfl | rfl <;> rfl) (by omega) (by unfold maxLen;omega) (by omega) (by show lo≤(World.alloc _ _).heap.size;rw [World.size_alloc];omega) (w10.heap.size+1) (by show (World.alloc _ _).heap.size=_;rw [World.size_alloc]) ?_;intro gg cap w3 hown1 hgrow hatt hlt3;have q1:w3.cell? ⟨R,5,none⟩=some (.slice va1 n1 vc1):=hgrow.cell (a:=⟨R,5,none⟩) s1 hRne;have q2:w3.frozen? ⟨R,5,none⟩=false:=(Blk.kept (W:=(w10.alloc (.cells #[.int .i32 x1.r,.int .i64 x2.n] 93)).drew) (oz HA).at_.blk hgrow hRne).frozen 5)
  all_goals
   have HAD:=kz ((oz HA).call (w':=(w10.alloc (.cells #[.int .i32 x1.r,.int .i64 x2.n] 93)).drew) ((oz HA).at_.below (Below.refl _ _).drew) ⟨rfl,rfl,rfl,Nat.le_refl _,fun _ _ _ =>rfl⟩)
   have H20:Hz (RrW W (w3.setCell ⟨R,5,none⟩ (.slice (some ⟨gg,0,none⟩) (n1+1) cap)) lo R g (some ⟨g,0,none⟩) c ws k2 b2 (vs.set 2 (.slice (some ⟨gg,0,none⟩) (n1+1) cap)) (ls.set 2 ⟨93,2,n1+1,xs1++[.int .i32 x1.r,.int .i64 x2.n]⟩) M x):=kz ((oz HAD).put (by omega) (oz HHL).1 (oz HHL).2 (show (93:Nat)≠123 by decide) hown1 ⟨hgrow.os,hgrow.tape,hgrow.output,hgrow.size,hgrow.block⟩ (by rcases hatt with e | e;exact .inl e.symm;exact .inr (by rw [e];show some (w10.heap.size+1)=some (World.alloc _ _).heap.size;rw [World.size_alloc])))
   clear hown1 hgrow hatt hlt3 q1 q2 HAD HA HN t1 s1 howA m0 m1
   generalize w3.setCell _ _=w20 at *
   have y4:=(oz H20).bx.cell 4
   have HC:=kz (zeG lo R g (some ⟨g,0,none⟩) c ws k2 b2 _ _ 3 (by omega) x.b v2 n2 xs2 hn2 (oz HV2 _) (oz HL2 _) w20 (oz H20).at_)
   go_wp2_with fail
   refine (oz HC).mono ?_
   rintro e w21 ⟨⟨rr,rfl⟩,⟨v2',hR21⟩,hf21⟩
   have HF21:=kz ((oz H20).fr.trans hf21)
   have HC2:=kz (zaE lo R g (some ⟨g,0,none⟩) c ws k2 b2 bad2 eb el ec 6 _ _ w21 hR21 (oz HB2))
   rw [← oz E2] at HC2
   dsimp only at HC2
   unfold r6V at HC2
   have hlw21:lo≤w21.heap.size:=hR21.lw
   clear HC hR21 hf21 y4
   go_wp2_with fail
   refine (oz HC2).mono ?_
   rintro e w22 ⟨rfl,⟨b22,hB22,hR22⟩,hg22⟩
   have HFIN:=kz (And.intro hB22 (And.intro hR22 ((oz HF21).trans (Fr.grown hlw21 hg22 (fun b e =>.inl (Option.some.inj e).symm)))))
   clear HC2 hB22 hR22 hg22
   go_wp2_with fail
   rw [oz HV]
   go_end0
   exact ⟨⟨_,rfl⟩,⟨_,_,b22,(oz HFIN).1,(oz HFIN).2.1⟩,(oz HFIN).2.2⟩
set_option maxRecDepth 100000 in
set_option maxHeartbeats 8000000 in
theorem zlc (lo R g:Nat) (a:Option Addr) (c:Nat) (ws:List W8) (k:Nat) (eb el ec:Int) (vs:List Value) (ls:List Ln) (x:W8) (hx:ws[k]?=some x) (hxk:x.k=1) (hS:x.S=⟨#[112,97,105,114]⟩) (v1 v2:Value) (n1 n2:Nat) (xs1 xs2:List Value) (hn1:n1≤1000000) (hn2:n2≤1000000) (hv1:vs[3]?=some v1) (hl1:ls[3]?=some ⟨96,3,n1,xs1⟩) (hv2:vs[12]?=some v2) (hl2:ls[12]?=some ⟨3,1,n2,xs2⟩) (W:World) (h:RrAt W lo R g a c ws k (-1) vs ls) :
  Calls Tryz.prog 47 #[.pointer (some ⟨R,0,none⟩)] W fun e w' =>(∃ r,e=.returned r)∧(∃ (v1' v2':Value) (b2:Int),BadR ws (zb5 ws (k+1) none eb el ec).k eb el ec b2 (zb5 ws (k+1) none eb el ec).bad∧RrAt w' lo R g a c ws (zb5 ws (k+1) none eb el ec).k b2 ((vs.set 3 v1').set 12 v2') ((ls.set 3 ⟨96,3,n1+1,xs1++[.int .i32 (zb5 ws (k+1) none eb el ec).wh,.int .i32 (zb5 ws (k+1) none eb el ec).ba,.int .i32 (zb5 ws (k+1) none eb el ec).ma]⟩).set 12 ⟨3,1,n2+1,xs2++[.int .i64 x.b]⟩))∧Fr lo R R W w':=by
 have hmx:Tryz.prog.follows .mixedOrders=true:=by kernel_rfl
 have hlt:=(List.getElem?_eq_some_iff.1 hx).1
 have hnm:=h.nmax
 have hcap:=h.cap
 have hRW:=h.blk.lt
 have hRl:=h.lt
 have hlw:=h.lw
 obtain ⟨rfl,hgl,hgR⟩:=h.ptr (by omega)
 have hs:zaJ ws k none 1=true:=by unfold zaJ;rw [hx];show (x.k == 1)=true;rw [hxk];rfl
 have HC:=kz (zb3 lo R g (some ⟨g,0,none⟩) c ws k (-1) none eb el ec 1 vs ls W h rfl)
 rw [hs] at HC
 have H:=kz h
 have HX:=kz hx
 have HSX:=kz hS
 obtain ⟨T0,hT0⟩:∃ T,T=zaa ws (k+1) none eb el ec 3:=⟨_,rfl⟩
 obtain ⟨T1,hT1⟩:∃ T,T=zaa ws T0.k T0.bad eb el ec 7:=⟨_,rfl⟩
 obtain ⟨T2,hT2⟩:∃ T,T=zaa ws T1.k T1.bad eb el ec 3:=⟨_,rfl⟩
 obtain ⟨T3,hT3⟩:∃ T,T=zaa ws T2.k T2.bad eb el ec 8:=⟨_,rfl⟩
 obtain ⟨T4,hT4⟩:∃ T,T=zaa ws T3.k T3.bad eb el ec 3:=⟨_,rfl⟩
 obtain ⟨T5,hT5⟩:∃ T,T=zaa ws T4.k T4.bad eb el ec 6:=⟨_,rfl⟩
 have HV:Hz (zb5 ws (k+1) none eb el ec=⟨T0.x.r,T2.x.r,T4.x.r,T5.k,T5.bad⟩):=kz (by rw [hT5,hT4,hT3,hT2,hT1,hT0];rfl)
 generalize zb5 ws (k+1) none eb el ec=SV at *
 have E0:=kz hT0
 have E1:=kz hT1
 have E2:=kz hT2
 have E3:=kz hT3
 have E4:=kz hT4
 have E5:=kz hT5
 clear hT0 hT1 hT2 hT3 hT4 hT5
 obtain ⟨x1,k1,bad1⟩:=T0
 obtain ⟨x2,k2,bad2⟩:=T1
 obtain ⟨x3,k3,bad3⟩:=T2
 obtain ⟨x4,k4,bad4⟩:=T3
 obtain ⟨x5,k5,bad5⟩:=T4
 obtain ⟨x6,k6,bad6⟩:=T5
 dsimp only at HV E0 E1 E2 E3 E4 E5
 clear h hs hx hxk hS
 go_enter Tryz.func47,Tryz.ntmps47
 go_wp2_with fail
 refine (oz HC).mono ?_
 rintro e w1 ⟨rfl,hb1⟩
 have H1:=kz ((oz H).below hb1)
 have HFR1:Hz (Fr lo R R W w1):=kz ⟨hb1.os,hb1.tape,hb1.output,hb1.size,fun j hj _ _ =>hb1.block j (by omega)⟩
 have hlw1:lo≤w1.heap.size:=(oz H1).lw
 clear HC hb1
 go_wp2_with fail
 have HF:Hz (∀ w,Below w1.heap.size w1.drew w→w.cell? ⟨R,0,none⟩=some (.slice (some ⟨g,0,none⟩) ws.length c)∧w.cell? ⟨R,1,none⟩=some (.int .i64 (k:Int))∧∀ i u,(r6 x)[i]?=some u→w.cell? ⟨g,k*6+i,none⟩=some u):=kz (fun w hb =>by
  have h2:=(oz H1).below ((Below.refl _ _).drew.trans hb)
  exact ⟨h2.cells.1,h2.cells.2.1,fun i u hu =>h2.words k x (oz HX) i u hu⟩)
 refine za3 hmx 11 (by decide) (by kernel_rfl) (by kernel_rfl) (fun l a w => ∃ U:Nat→Value,a = { tmps:=#[.pointer (some ⟨R,0,none⟩),undef,U 10,undef,undef,undef,undef,undef,undef,undef,undef,undef,undef,undef,.pointer (some ⟨R,0,none⟩),.bool true,.bool false,undef,undef,U 0,U 1,U 2,U 3,U 4,U 5,U 6,U 7,U 8,U 9,undef,undef,undef,undef,undef,undef,undef,undef,undef,undef,undef,undef,undef,undef,undef,undef,undef,undef,undef,undef,undef,undef,undef,undef,undef,undef,undef,undef,undef,undef,undef,undef,undef,undef,undef,undef,undef,undef,undef,undef,undef,undef,undef,undef,undef,undef,undef,undef,undef,undef,undef,undef,undef,undef,undef,undef,undef,undef,undef,undef,undef,undef,undef,undef,undef,undef,undef,undef,undef,undef,undef,undef,undef,undef,undef,undef,undef,undef,undef,undef,undef,undef,undef,undef,undef,undef,undef,undef,undef,undef,undef,undef,undef,undef,undef,undef,undef,undef,undef,undef,undef,undef,undef,undef,undef,undef,undef,undef,undef,undef,undef,undef,undef,undef,undef,undef,undef,undef,undef,undef,undef,undef,undef,undef,undef,undef,undef,undef,undef,undef,undef,undef,undef,undef,undef,undef,undef,undef,undef,undef,undef,undef,undef,undef,undef,undef,undef,undef,undef,undef,undef,undef,undef,undef,undef,undef,undef,undef,undef,undef,undef,undef,undef,undef,undef,undef,undef,undef,undef,undef,undef,undef,undef,undef,undef,undef,undef,undef,undef,undef,undef,undef,undef,undef,undef,undef,undef,undef,undef,undef,undef,undef,undef,undef,undef,undef,undef,undef,undef,undef,undef,undef,undef,undef,undef,undef,undef,undef,undef,undef,undef,undef,undef,undef,undef,undef,undef,undef,undef,undef,undef,undef,undef,undef,undef,undef,undef,undef,undef,undef,undef,undef,undef,undef,undef,undef,undef,undef,undef],defers := [] }∧RgJ (w1.drew) (w1.heap.size) (ruD R g ws.length c k w1.heap.size x) ruDM l U w) ⟨fun _ =>undef,rfl,RgJ.start _ _ (Nat.le_refl _)⟩ ?_ ?_
 ·rintro l a w i ⟨U,rfl,hJ⟩ hl hi hif
  have h0:=(mem_ready.1 hi).1
  have hlt:=zhw hl h0
  have HJ:=kz hJ
  clear hJ hl
  replace hlt:i < 12:=hlt
  obtain rfl | rfl | rfl | rfl | rfl | rfl | rfl | rfl | rfl | rfl | rfl:i=0∨i=1∨i=2∨i=3∨i=4∨i=5∨i=6∨i=7∨i=8∨i=9∨i=10:=by omega
  ·refine wpOp_step rfl (fun K hK =>?_)
   clear hlt hif
   go_simp
   exact hK _ _ ⟨zae U 0 _,rfl,(oz HJ).put 0 _ h0 (Below.refl _ _) (zak (Below.refl _ _)) rfl zal (fun h =>absurd h (by decide))⟩
  ·refine wpOp_step rfl (fun K hK =>?_)
   clear hlt hif
   have d0:U 0=.pointer (some ⟨R,0,none⟩):=(oz HJ).val 0 (zar hi 0 (by kernel_rfl))
   go_simp
   exact hK _ _ ⟨zae U 1 _,(by rw [zaq d0];rfl),(oz HJ).put 1 _ h0 (Below.refl _ _) (zak (Below.refl _ _)) rfl zal (fun h =>absurd h (by decide))⟩
  ·refine wpOp_step rfl (fun K hK =>?_)
   clear hlt hif
   have d1:U 1=.pointer (some ⟨R,0,none⟩):=(oz HJ).val 1 (zar hi 1 (by kernel_rfl))
   go_simp
   exact hK _ _ ⟨zae U 2 _,(by rw [zaq d1];rfl),(oz HJ).put 2 _ h0 (Below.refl _ _) (zak (Below.refl _ _)) rfl zal (fun h =>absurd h (by decide))⟩
  ·refine wpOp_step rfl (fun K hK =>?_)
   clear hlt hif
   have d2:U 2=.pointer (some ⟨R,0,none⟩):=(oz HJ).val 2 (zar hi 2 (by kernel_rfl))
   have q:=(oz HF w (oz HJ).bel).1
   go_simp
   exact hK _ _ ⟨zae U 3 _,(by rw [zaq d2];rfl),(oz HJ).put 3 _ h0 (Below.refl _ _) (zak (Below.refl _ _)) rfl zal (fun h =>absurd h (by decide))⟩
  ·refine wpOp_step rfl (fun K hK =>?_)
   clear hlt hif
   go_simp
   exact hK _ _ ⟨zae U 4 _,rfl,(oz HJ).put 4 _ h0 (Below.refl _ _) (zak (Below.refl _ _)) rfl zal (fun h =>absurd h (by decide))⟩
  ·refine wpOp_step rfl (fun K hK =>?_)
   clear hlt hif
   have d4:U 4=.pointer (some ⟨R,0,none⟩):=(oz HJ).val 4 (zar hi 4 (by kernel_rfl))
   go_simp
   exact hK _ _ ⟨zae U 5 _,(by rw [zaq d4];rfl),(oz HJ).put 5 _ h0 (Below.refl _ _) (zak (Below.refl _ _)) rfl zal (fun h =>absurd h (by decide))⟩
  ·refine wpOp_step rfl (fun K hK =>?_)
   clear hlt hif
   have d5:U 5=.pointer (some ⟨R,0,none⟩):=(oz HJ).val 5 (zar hi 5 (by kernel_rfl))
   go_simp
   exact hK _ _ ⟨zae U 6 _,(by rw [zaq d5];rfl),(oz HJ).put 6 _ h0 (Below.refl _ _) (zak (Below.refl _ _)) rfl zal (fun h =>absurd h (by decide))⟩
  ·refine wpOp_step rfl (fun K hK =>?_)
   clear hlt hif
   have d6:U 6=.pointer (some ⟨R,1,none⟩):=(oz HJ).val 6 (zar hi 6 (by kernel_rfl))
   have q:=(oz HF w (oz HJ).bel).2.1
   go_simp
   exact hK _ _ ⟨zae U 7 _,(by rw [zaq d6];rfl),(oz HJ).put 7 _ h0 (Below.refl _ _) (zak (Below.refl _ _)) rfl zal (fun h =>absurd h (by decide))⟩
  ·refine wpOp_step rfl (fun K hK =>?_)
   clear hlt hif
   have d3:U 3=.slice (some ⟨g,0,none⟩) ws.length c:=(oz HJ).val 3 (zar hi 3 (by kernel_rfl))
   have d7:U 7=.int .i64 (k:Int):=(oz HJ).val 7 (zar hi 7 (by kernel_rfl))
   have i0:(0:Int)≤(k:Int):=by omega
   have i1:(k:Int) < (ws.length:Int):=by omega
   go_simp
   exact hK _ _ ⟨zae U 8 _,(by rw [zaq d3,zaq d7];rfl),(oz HJ).put 8 _ h0 (Below.refl _ _) (zak (Below.refl _ _)) rfl zal (fun h =>absurd h (by decide))⟩
  ·refine wpOp_step rfl (fun K hK =>?_)
   clear hlt hif
   have d8:U 8=.pointer (some ⟨g,k*6,none⟩):=(oz HJ).val 8 (zar hi 8 (by kernel_rfl))
   have q0:w.cell? ⟨g,k*6,none⟩=some (.int .i64 x.k):=(oz HF w (oz HJ).bel).2.2 0 _ rfl
   have q1:w.cell? ⟨g,k*6+1,none⟩=some (.string x.S):=(oz HF w (oz HJ).bel).2.2 1 _ rfl
   have q2:w.cell? ⟨g,k*6+2,none⟩=some (.int .i32 x.r):=(oz HF w (oz HJ).bel).2.2 2 _ rfl
   have q3:w.cell? ⟨g,k*6+3,none⟩=some (.int .i64 x.n):=(oz HF w (oz HJ).bel).2.2 3 _ rfl
   have q4:w.cell? ⟨g,k*6+4,none⟩=some (.int .i64 x.b):=(oz HF w (oz HJ).bel).2.2 4 _ rfl
   have q5:w.cell? ⟨g,k*6+5,none⟩=some (.int .i64 x.e):=(oz HF w (oz HJ).bel).2.2 5 _ rfl
   go_simp
   exact hK _ _ ⟨zae U 9 _,(by rw [zaq d8];rfl),(oz HJ).put 9 _ h0 (Below.refl _ _) (zak (Below.refl _ _)) rfl zal (fun h =>absurd h (by decide))⟩
  ·refine wpOp_step rfl (fun K hK =>?_)
   clear hlt hif
   go_simp
   exact hK _ _ ⟨zae U 10 _,rfl,(oz HJ).put 10 _ h0 ((Below.refl _ _).alloc (Nat.le_refl _) _) (zak ((Below.refl _ _).alloc (Nat.le_refl _) _)) ⟨w.heap.size,rfl,(oz HJ).sz,Blk.new w _ _⟩ zal (fun h =>absurd h (by decide))⟩
 ·rintro l a w ⟨U,rfl,hJ⟩ hall
  have hv:U 9=.agg #[.int .i64 x.k,.string x.S,.int .i32 x.r,.int .i64 x.n,.int .i64 x.b,.int .i64 x.e]:=hJ.val 9 (hall 9 (by decide) (by decide))
  obtain ⟨M,hp,hbkn,hbk⟩:=hJ.val 10 (hall 10 (by decide) (by decide))
  have hbj:=hJ.bel
  have hsj:=hJ.sz
  clear hJ hall
  have H2:=kz ((oz H1).below ((Below.refl _ _).drew.trans hbj))
  have hMR:M≠R:=by omega
  have hML:w1.heap.size≤M:=hbkn
  have HW3:Hz (∀ w9,w9=(((((((w.setCell ⟨M,0,none⟩ (.int .i64 x.k)).setCell ⟨M,1,none⟩ (.string x.S)).setCell ⟨M,2,none⟩ (.int .i32 x.r)).setCell ⟨M,3,none⟩ (.int .i64 x.n)).setCell ⟨M,4,none⟩ (.int .i64 x.b)).setCell ⟨M,5,none⟩ (.int .i64 x.e))).setCell ⟨R,1,none⟩ (.int .i64 ((k:Int)+1))→RrW W w9 lo R g (some ⟨g,0,none⟩) c ws (k+1) (-1) vs ls M x):=kz (fun w9 e =>by
   subst e
   have hb2:Below w1.heap.size w1 w:=(Below.refl _ _).drew.trans hbj
   have g1:w1.grownBy w (some R):=⟨hb2.os,hb2.tape,hb2.output,hb2.size,fun i hi _ =>hb2.block i hi⟩
   have g2:=zby g1 M hML (.int .i64 x.k) (.string x.S) (.int .i32 x.r) (.int .i64 x.n) (.int .i64 x.b) (.int .i64 x.e)
   have s2:RrS w1 _ lo R g (some ⟨g,0,none⟩) c ws k (-1) vs ls:=⟨(oz H1).upd g2 (oz H1).kn (zbg ((oz H2).blk) (Ne.symm hMR) (.int .i64 x.k) (.string x.S) (.int .i32 x.r) (.int .i64 x.n) (.int .i64 x.b) (.int .i64 x.e)),g2⟩
   have s3:=s2.next (by omega)
   have b3:=(box6 hbk (.int .i64 x.k) (.string x.S) (.int .i32 x.r) (.int .i64 x.n) (.int .i64 x.b) (.int .i64 x.e)).kept (zad _ R 1 (.int .i64 ((k:Int)+1))) (fun e =>hMR (Option.some.inj e))
   exact ⟨s3.at_,(oz HFR1).trans (Fr.grown (oz H1).lw s3.gr (fun b e =>.inl (Option.some.inj e).symm)),b3,by omega⟩)
  have e0:=hbk.cell 0
  have e1:=hbk.cell 1
  have e2:=hbk.cell 2
  have e3:=hbk.cell 3
  have e4:=hbk.cell 4
  have e5:=hbk.cell 5
  have f0:=hbk.frozen 0
  have f1:=hbk.frozen 1
  have f2:=hbk.frozen 2
  have f3:=hbk.frozen 3
  have f4:=hbk.frozen 4
  have f5:=hbk.frozen 5
  have HR5:Hz (Blk (((((((w.setCell ⟨M,0,none⟩ (.int .i64 x.k)).setCell ⟨M,1,none⟩ (.string x.S)).setCell ⟨M,2,none⟩ (.int .i32 x.r)).setCell ⟨M,3,none⟩ (.int .i64 x.n)).setCell ⟨M,4,none⟩ (.int .i64 x.b)).setCell ⟨M,5,none⟩ (.int .i64 x.e))) R (zbm (some ⟨g,0,none⟩) ws.length c k (-1) vs) 121):=kz (zbg ((oz H2).blk) (Ne.symm hMR) (.int .i64 x.k) (.string x.S) (.int .i32 x.r) (.int .i64 x.n) (.int .i64 x.b) (.int .i64 x.e))
  have hRM:R≠M:=Ne.symm hMR
  have hk1:k≤1000000:=by omega
  have HBK:=kz hbk
  clear hbj hsj hbk H2 H1 HFR1 HF
  refine wpOp_step rfl (fun K hK =>?_)
  go_simp
  refine hK _ _ ?_
  clear hK K e0 e1 e2 e3 e4 e5 f0 f1 f2 f3 f4 f5
  generalize ((((((w.setCell _ _).setCell _ _).setCell _ _).setCell _ _).setCell _ _).setCell _ _)=w5 at *
  have r1:w5.cell? ⟨R,1,none⟩=some (.int .i64 (k:Int)):=(oz HR5).cell 1
  have rf:=(oz HR5).frozen 1
  have y1:(w5.setCell ⟨R,1,none⟩ (.int .i64 ((k:Int)+1))).cell? ⟨M,1,none⟩=some (.string ⟨#[112,97,105,114]⟩):=by
   have h5:=(oz HW3 _ rfl).bx.cell 1
   rw [h5]
   show some (Value.string x.S)=_
   rw [oz HSX]
  clear HBK HSX hv hp hRM hMR
  go_wp2_with fail
  have H6:=kz (oz HW3 _ rfl)
  clear HW3 y1 r1 rf HR5
  generalize w5.setCell ⟨R,1,none⟩ _=w6 at *
  have HC:=kz (zaE lo R g (some ⟨g,0,none⟩) c ws (k+1) (-1) none eb el ec 3 vs ls w6 (oz H6).at_ rfl)
  rw [← oz E0] at HC
  dsimp only at HC
  unfold r6V at HC
  refine (oz HC).mono ?_
  rintro e w7 ⟨rfl,⟨b1,hB1,hR1⟩,hg1⟩
  have HB1:=kz hB1
  have Q7:=kz (RrQ.start ((oz H6).call hR1 hg1) #[.int .i32 x1.r,.int .i32 0,.int .i32 0] 96)
  have hf:=zcD x1.k x1.S x1.r x1.n x1.b x1.e
  clear HC hR1 hg1 hB1 H6
  go_wp2_with fail
  clear hf
  generalize w7.alloc _=w8 at *
  generalize hBB:w7.heap.size=B at *
  clear hBB
  have Q8:=Q7
  have HC:=kz (zaE lo R g (some ⟨g,0,none⟩) c ws k1 b1 bad1 eb el ec 7 vs ls w8 (oz Q8).rs.at_ (oz HB1))
  rw [← oz E1] at HC
  dsimp only at HC
  unfold r6V at HC
  go_wp2_with fail
  refine (oz HC).mono ?_
  rintro e w9 ⟨rfl,⟨b2,hB2,hR2⟩,hg2⟩
  have HB2:=kz hB2
  have Q9:=kz ((oz Q8).call hR2 hg2)
  clear HC hR2 hg2 hB2
  have HC:=kz (zaE lo R g (some ⟨g,0,none⟩) c ws k2 b2 bad2 eb el ec 3 vs ls w9 (oz Q9).rs.at_ (oz HB2))
  rw [← oz E2] at HC
  dsimp only at HC
  unfold r6V at HC
  go_wp2_with fail
  refine (oz HC).mono ?_
  rintro e w10 ⟨rfl,⟨b3,hB3,hR3⟩,hg3⟩
  have HB3:=kz hB3
  have Q10:=kz ((oz Q9).call hR3 hg3)
  clear HC hR3 hg3 hB3
  have e1:=(oz Q10).bb.cell 1
  have f1:=(oz Q10).bb.frozen 1
  have hf:=zcD x3.k x3.S x3.r x3.n x3.b x3.e
  have Q11:=kz ((oz Q10).store 1 (.int .i32 x3.r))
  go_wp2_with fail
  clear e1 f1 hf
  generalize w10.setCell _ _=w11 at *
  have HC:=kz (zaE lo R g (some ⟨g,0,none⟩) c ws k3 b3 bad3 eb el ec 8 vs ls w11 (oz Q11).rs.at_ (oz HB3))
  rw [← oz E3] at HC
  dsimp only at HC
  unfold r6V at HC
  go_wp2_with fail
  refine (oz HC).mono ?_
  rintro e w12 ⟨rfl,⟨b4,hB4,hR4⟩,hg4⟩
  have HB4:=kz hB4
  have Q12:=kz ((oz Q11).call hR4 hg4)
  clear HC hR4 hg4 hB4
  have HC:=kz (zaE lo R g (some ⟨g,0,none⟩) c ws k4 b4 bad4 eb el ec 3 vs ls w12 (oz Q12).rs.at_ (oz HB4))
  rw [← oz E4] at HC
  dsimp only at HC
  unfold r6V at HC
  go_wp2_with fail
  refine (oz HC).mono ?_
  rintro e w13 ⟨rfl,⟨b5,hB5,hR5⟩,hg5⟩
  have HB5:=kz hB5
  have Q13:=kz ((oz Q12).call hR5 hg5)
  clear HC hR5 hg5 hB5
  have e1:=(oz Q13).bb.cell 2
  have f1:=(oz Q13).bb.frozen 2
  have hf:=zcD x5.k x5.S x5.r x5.n x5.b x5.e
  have Q14:=kz ((oz Q13).store 2 (.int .i32 x5.r))
  go_wp2_with fail
  clear e1 f1 hf
  generalize w13.setCell _ _=w14 at *
  obtain ⟨is,his,hs0,hs1,hs2⟩:=info_parts zhG
  have HIS:=kz (And.intro his (And.intro hs0 (And.intro hs1 hs2)))
  clear his hs0 hs1 hs2
  have HV2:Hz (∀ v1',(vs.set 3 v1')[12]?=some v2):=kz (fun v1' =>by rw [List.getElem?_set_ne (by decide)];exact hv2)
  have HL2:Hz (∀ l1,(ls.set 3 l1)[12]?=some ⟨3,1,n2,xs2⟩):=kz (fun l1 =>by rw [List.getElem?_set_ne (by decide)];exact hl2)
  have HW:=kz (oz Q14).toW
  have hbA:Below w14.heap.size w14 (w14.alloc (.cells #[.int .i32 x1.r,.int .i32 x3.r,.int .i32 x5.r] 96)):=(Below.refl _ _).alloc (Nat.le_refl _) _
  have HA:=kz ((oz HW).call ((oz HW).at_.below hbA) ⟨hbA.os,hbA.tape,hbA.output,hbA.size,fun i hi _ =>hbA.block i hi⟩)
  have how1:=(oz HW).at_.own _ _ _ hv1 hl1
  obtain ⟨va1,vc1,rfl⟩:=zab how1
  have howA:=(oz HA).at_.own _ _ _ hv1 hl1
  have HN:=kz (Blk.new w14 #[.int .i32 x1.r,.int .i32 x3.r,.int .i32 x5.r] 96)
  have t1:w14.cell? ⟨R,6,none⟩=some (.slice va1 n1 vc1):=(oz HW).at_.cell (by omega) hv1
  have s1:(w14.alloc (.cells #[.int .i32 x1.r,.int .i32 x3.r,.int .i32 x5.r] 96)).cell? ⟨R,6,none⟩=some (.slice va1 n1 vc1):=(oz HA).at_.cell (by omega) hv1
  have HG1:Hz (∀ b,Value.ownBlock (.slice va1 n1 vc1)=some b→lo≤b):=kz (zam how1)
  have hRne:some R≠Value.ownBlock (.slice va1 n1 vc1):=fun e =>by have:=oz HG1 R e.symm;omega
  have hlww:lo≤w14.heap.size:=(oz HW).at_.lw
  have HHL:=kz (And.intro hv1 hl1)
  have m0:w14.cell? ⟨B,0,none⟩=some (.int .i32 x1.r):=(oz Q14).bb.cell 0
  have m1:w14.cell? ⟨B,1,none⟩=some (.int .i32 x3.r):=(oz Q14).bb.cell 1
  have m2:w14.cell? ⟨B,2,none⟩=some (.int .i32 x5.r):=(oz Q14).bb.cell 2
  have HNW:Hz (∀ j u,([.int .i32 x1.r,.int .i32 x3.r,.int .i32 x5.r] : List Value)[j]?=some u→(w14.alloc (.cells #[.int .i32 x1.r,.int .i32 x3.r,.int .i32 x5.r] 96)).drew.cell? ((⟨w14.heap.size,0,none⟩:Addr).add j)=some u):=kz (fun j u hj =>by
   have e:=(oz HN).cell j
   rw [List.getElem?_toArray,hj] at e
   have ea:(⟨w14.heap.size,0,none⟩:Addr).add j=⟨w14.heap.size,j,none⟩:=by cases j <;> simp [Addr.add]
   rw [ea]
   exact e)
  clear hbA how1 hv2 hl2 Q14 HW
  go_region_law (refine step_append_lies _ (by rfl) _ _ _ (by rfl) lo 96 is (.agg #[.int .i32 0,.int .i32 0,.int .i32 0]) 3 12 Tryz.underlying30 (oz HIS).1 (oz HIS).2.1 (oz HIS).2.2.1 (oz HIS).2.2.2 rfl (by omega) _ n1 xs1 (by rfl) howA.drew ⟨w14.heap.size,0,none⟩ 1 1 [.int .i32 x1.r,.int .i32 x3.r,.int .i32 x5.r] (by rfl) (by simp) (oz HNW) (by intro u hu;simp at hu;rcases hu with rfl | rfl | rfl <;> rfl) (by omega) (by unfold maxLen;omega) (by omega) (by show lo≤(World.alloc _ _).heap.size;rw [World.size_alloc];omega) (w14.heap.size+1) (by show (World.alloc _ _).heap.size=_;rw [World.size_alloc]) ?_;intro gg cap w3 hown1 hgrow hatt hlt3;have q1:w3.cell? ⟨R,6,none⟩=some (.slice va1 n1 vc1):=hgrow.cell (a:=⟨R,6,none⟩) s1 hRne;have q2:w3.frozen? ⟨R,6,none⟩=false:=(Blk.kept (W:=(w14.alloc (.cells #[.int .i32 x1.r,.int .i32 x3.r,.int .i32 x5.r] 96)).drew) (oz HA).at_.blk hgrow hRne).frozen 6)
  all_goals
   have HAD:=kz ((oz HA).call (w':=(w14.alloc (.cells #[.int .i32 x1.r,.int .i32 x3.r,.int .i32 x5.r] 96)).drew) ((oz HA).at_.below (Below.refl _ _).drew) ⟨rfl,rfl,rfl,Nat.le_refl _,fun _ _ _ =>rfl⟩)
   have H20:Hz (RrW W (w3.setCell ⟨R,6,none⟩ (.slice (some ⟨gg,0,none⟩) (n1+1) cap)) lo R g (some ⟨g,0,none⟩) c ws k5 b5 (vs.set 3 (.slice (some ⟨gg,0,none⟩) (n1+1) cap)) (ls.set 3 ⟨96,3,n1+1,xs1++[.int .i32 x1.r,.int .i32 x3.r,.int .i32 x5.r]⟩) M x):=kz ((oz HAD).put (by omega) (oz HHL).1 (oz HHL).2 (show (96:Nat)≠123 by decide) hown1 ⟨hgrow.os,hgrow.tape,hgrow.output,hgrow.size,hgrow.block⟩ (by rcases hatt with e | e;exact .inl e.symm;exact .inr (by rw [e];show some (w14.heap.size+1)=some (World.alloc _ _).heap.size;rw [World.size_alloc])))
   clear hown1 hgrow hatt hlt3 q1 q2 HAD HA HN t1 s1 howA m0 m1 m2
   generalize w3.setCell _ _=w20 at *
   have y4:=(oz H20).bx.cell 4
   have HC:=kz (zeG lo R g (some ⟨g,0,none⟩) c ws k5 b5 _ _ 4 (by omega) x.b v2 n2 xs2 hn2 (oz HV2 _) (oz HL2 _) w20 (oz H20).at_)
   go_wp2_with fail
   refine (oz HC).mono ?_
   rintro e w21 ⟨⟨rr,rfl⟩,⟨v2',hR21⟩,hf21⟩
   have HF21:=kz ((oz H20).fr.trans hf21)
   have HC2:=kz (zaE lo R g (some ⟨g,0,none⟩) c ws k5 b5 bad5 eb el ec 6 _ _ w21 hR21 (oz HB5))
   rw [← oz E5] at HC2
   dsimp only at HC2
   unfold r6V at HC2
   have hlw21:lo≤w21.heap.size:=hR21.lw
   clear HC hR21 hf21 y4
   go_wp2_with fail
   refine (oz HC2).mono ?_
   rintro e w22 ⟨rfl,⟨b22,hB22,hR22⟩,hg22⟩
   have HFIN:=kz (And.intro hB22 (And.intro hR22 ((oz HF21).trans (Fr.grown hlw21 hg22 (fun b e =>.inl (Option.some.inj e).symm)))))
   clear HC2 hB22 hR22 hg22
   go_wp2_with fail
   rw [oz HV]
   go_end0
   exact ⟨⟨_,rfl⟩,⟨_,_,b22,(oz HFIN).1,(oz HFIN).2.1⟩,(oz HFIN).2.2⟩
end Go.Proofs.YtmdgejgokoadlaaGreatDoor
