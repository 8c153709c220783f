/- The reference's reader of rules: a rule; common, drop, allow. -/
import Derived.Test.YtmdgejgokoadlaaGreatDoorM21
import Derived.Test.YtmdgejgokoadlaaGreatDoorM19
import Derived.Laws.AppendOwnNone
namespace Go.Proofs.YtmdgejgokoadlaaGreatDoor
open Go.RowKit Go.Shelf
set_option linter.unusedVariables false
/-- What is said of each value of a region. -/
def ruD (R:Nat) (g:Nat) (n:Nat) (c:Nat) (k:Nat) (lw:Nat) (x:W8):Nat→Value→World→Prop
 | 0,v,w =>v=.pointer (some ⟨R,0,none⟩)
 | 1,v,w =>v=.pointer (some ⟨R,0,none⟩)
 | 2,v,w =>v=.pointer (some ⟨R,0,none⟩)
 | 3,v,w =>v=.slice (some ⟨g,0,none⟩) n c
 | 4,v,w =>v=.pointer (some ⟨R,0,none⟩)
 | 5,v,w =>v=.pointer (some ⟨R,0,none⟩)
 | 6,v,w =>v=.pointer (some ⟨R,1,none⟩)
 | 7,v,w =>v=.int .i64 (k:Int)
 | 8,v,w =>v=.pointer (some ⟨g,k*6,none⟩)
 | 9,v,w =>v=.agg #[.int .i64 x.k,.string x.S,.int .i32 x.r,.int .i64 x.n,.int .i64 x.b,.int .i64 x.e]
 | 10,v,w => ∃ M,v=.pointer (some ⟨M,0,none⟩)∧lw≤M∧Blk w M #[.int .i64 0,.string ⟨#[]⟩,.int .i32 0,.int .i64 0,.int .i64 0,.int .i64 0] 123
 | _,v,w =>True
def ruDM (j:Nat):Bool:=false
theorem zak {R:Nat} {g:Nat} {n:Nat} {c:Nat} {k:Nat} {lw:Nat} {x:W8} {w w':World} (hb:Below w.heap.size w w'):∀ (j:Nat) (v:Value),ruD R g n c k lw x j v w→ruD R g n c k lw x j v w'
 | 0,v,h =>h
 | 1,v,h =>h
 | 2,v,h =>h
 | 3,v,h =>h
 | 4,v,h =>h
 | 5,v,h =>h
 | 6,v,h =>h
 | 7,v,h =>h
 | 8,v,h =>h
 | 9,v,h =>h
 | 10,v,h =>let ⟨M,e,h1,h2⟩:=h; ⟨M,e,h1,h2.below hb h2.lt⟩
 | _+11,v,h =>h
theorem zal {R:Nat} {g:Nat} {n:Nat} {c:Nat} {k:Nat} {lw:Nat} {x:W8} {w:World} (j:Nat) (v:Value) (hm:ruDM j=true) (h:ruD R g n c k lw x j v w):∀ b,v.ownBlock=some b→b < w.heap.size:=by
 cases hm
/-- The reader behind a rule's first word, which lies in a box of its own. -/
structure RrW (W0 w:World) (lo R g:Nat) (a:Option Addr) (c:Nat) (ws:List W8) (k:Nat) (bi:Int) (vs:List Value) (ls:List Ln) (M:Nat) (x:W8):Prop where
 at_:RrAt w lo R g a c ws k bi vs ls
 fr:Fr lo R R W0 w
 bx:Blk w M #[.int .i64 x.k,.string x.S,.int .i32 x.r,.int .i64 x.n,.int .i64 x.b,.int .i64 x.e] 123
 ml:lo≤M
theorem RrW.call {W0 w w':World} {lo R g:Nat} {a:Option Addr} {c:Nat} {ws:List W8} {k k':Nat} {bi bi':Int} {vs:List Value} {ls:List Ln} {M:Nat} {x:W8} (h:RrW W0 w lo R g a c ws k bi vs ls M x) (h2:RrAt w' lo R g a c ws k' bi' vs ls) (hg:w.grownBy w' (some R)):RrW W0 w' lo R g a c ws k' bi' vs ls M x :=
 ⟨h2,h.fr.trans (Fr.grown h.at_.lw hg (fun b e =>.inl (Option.some.inj e).symm)),h.bx.kept hg (fun e =>by have h1:=Option.some.inj e;have:=h.ml;have:=h.at_.lt;omega),h.ml⟩
/-- A list is written. -/
theorem RrW.put {W0 w w1:World} {lo R g i:Nat} {a:Option Addr} {c:Nat} {ws:List W8} {k:Nat} {bi:Int} {vs:List Value} {ls:List Ln} {M:Nat} {x:W8} {v v':Value} {l:Ln} {n:Nat} {xs:List Value} (h:RrW W0 w lo R g a c ws k bi vs ls M x) (h17:i < 17) (hv:vs[i]?=some v) (hl:ls[i]?=some l) (hE:l.E≠123)
  (ho:w1.ownsRow lo l.E l.sz v' n xs) (hg:w.grownBy w1 v.ownBlock) (hat:v'.ownBlock=v.ownBlock∨v'.ownBlock=some w.heap.size):RrW W0 (w1.setCell ⟨R,3+i,none⟩ v') lo R g a c ws k bi (vs.set i v') (ls.set i ⟨l.E,l.sz,n,xs⟩) M x:=by
 have hf:=zj7 h.at_ h17 hv hl ho hg hat
 have hb1:=h.bx.kept hg (zbK h.bx (h.at_.own i v l hv hl) hE)
 exact ⟨hf.1,h.fr.trans hf.2,hb1.kept (zad w1 R (3+i) v') (fun e =>by have h1:=Option.some.inj e;have:=h.ml;have:=h.at_.lt;omega),h.ml⟩
set_option maxRecDepth 100000 in
set_option maxHeartbeats 8000000 in
theorem zid (lo R g:Nat) (a:Option Addr) (c:Nat) (ws:List W8) (k:Nat) (eb el ec:Int) (vs:List Value) (ls:List Ln) (x:W8) (hx:ws[k]?=some x) (hxk:x.k=1) (hS:x.S=⟨#[99,111,109,109,111,110]⟩) (v1 v2:Value) (n1 n2:Nat) (xs1 xs2:List Value) (hn1:n1≤1000000) (hn2:n2≤1000000) (hv1:vs[1]?=some v1) (hl1:ls[1]?=some ⟨73,2,n1,xs1⟩) (hv2:vs[10]?=some v2) (hl2:ls[10]?=some ⟨3,1,n2,xs2⟩) (W:World) (h:RrAt W lo R g a c ws k (-1) vs ls) :
  Calls Tryz.prog 47 #[.pointer (some ⟨R,0,none⟩)] W fun e w' =>(∃ r,e=.returned r)∧(∃ (v1' v2':Value) (b2:Int),BadR ws (zaf ws (k+1) none eb el ec).k eb el ec b2 (zaf ws (k+1) none eb el ec).bad∧RrAt w' lo R g a c ws (zaf ws (k+1) none eb el ec).k b2 ((vs.set 1 v1').set 10 v2') ((ls.set 1 ⟨73,2,n1+(zaf ws (k+1) none eb el ec).ss.length,xs1++zap (zaf ws (k+1) none eb el ec).ss⟩).set 10 ⟨3,1,n2+(zaf ws (k+1) none eb el ec).ps.length,xs2++zbw (zaf ws (k+1) none eb el ec).ps⟩))∧Fr lo R R W w':=by
 have hmx:Tryz.prog.follows .mixedOrders=true:=by kernel_rfl
 have hlt:=(List.getElem?_eq_some_iff.1 hx).1
 have hnm:=h.nmax
 have hcap:=h.cap
 have hRW:=h.blk.lt
 have hRl:=h.lt
 have hlw:=h.lw
 obtain ⟨rfl,hgl,hgR⟩:=h.ptr (by omega)
 have hs:zaJ ws k none 1=true:=by unfold zaJ;rw [hx];show (x.k == 1)=true;rw [hxk];rfl
 have HC:=kz (zb3 lo R g (some ⟨g,0,none⟩) c ws k (-1) none eb el ec 1 vs ls W h rfl)
 rw [hs] at HC
 have H:=kz h
 have HX:=kz hx
 have HSX:=kz hS
 have HRS:Hz (∀ w,RrAt w lo R g (some ⟨g,0,none⟩) c ws (k+1) (-1) vs ls→Calls Tryz.prog 85 #[.pointer (some ⟨R,0,none⟩)] w fun e w' => ∃ us up,e=.returned (.tuple #[us,up])∧∃ bi',BadR ws (zaf ws (k+1) none eb el ec).k eb el ec bi' (zaf ws (k+1) none eb el ec).bad∧RpSt w w' lo R g (some ⟨g,0,none⟩) c ws (zaf ws (k+1) none eb el ec).k bi' vs ls us up (zaf ws (k+1) none eb el ec).ss (zaf ws (k+1) none eb el ec).ps):=kz (fun w h5 =>zeb lo R g (some ⟨g,0,none⟩) c ws (k+1) (-1) none eb el ec vs ls w h5 rfl)
 have HLN:=kz (zbX ws eb el ec (k+1) none hlt)
 generalize zaf ws (k+1) none eb el ec=SV at *
 obtain ⟨ss,ps,k2,bad2⟩:=SV
 dsimp only at HRS HLN ⊢
 clear h hs hx hxk hS
 go_enter Tryz.func47,Tryz.ntmps47
 go_wp2_with fail
 refine (oz HC).mono ?_
 rintro e w1 ⟨rfl,hb1⟩
 have H1:=kz ((oz H).below hb1)
 have HFR1:Hz (Fr lo R R W w1):=kz ⟨hb1.os,hb1.tape,hb1.output,hb1.size,fun j hj _ _ =>hb1.block j (by omega)⟩
 have hlw1:lo≤w1.heap.size:=(oz H1).lw
 clear HC hb1
 go_wp2_with fail
 have HF:Hz (∀ w,Below w1.heap.size w1.drew w→w.cell? ⟨R,0,none⟩=some (.slice (some ⟨g,0,none⟩) ws.length c)∧w.cell? ⟨R,1,none⟩=some (.int .i64 (k:Int))∧∀ i u,(r6 x)[i]?=some u→w.cell? ⟨g,k*6+i,none⟩=some u):=kz (fun w hb =>by
  have h2:=(oz H1).below ((Below.refl _ _).drew.trans hb)
  exact ⟨h2.cells.1,h2.cells.2.1,fun i u hu =>h2.words k x (oz HX) i u hu⟩)
 refine za3 hmx 11 (by decide) (by kernel_rfl) (by kernel_rfl) (fun l a w => ∃ U:Nat→Value,a = { tmps:=#[.pointer (some ⟨R,0,none⟩),undef,U 10,undef,undef,undef,undef,undef,undef,undef,undef,undef,undef,undef,.pointer (some ⟨R,0,none⟩),.bool true,.bool false,undef,undef,U 0,U 1,U 2,U 3,U 4,U 5,U 6,U 7,U 8,U 9,undef,undef,undef,undef,undef,undef,undef,undef,undef,undef,undef,undef,undef,undef,undef,undef,undef,undef,undef,undef,undef,undef,undef,undef,undef,undef,undef,undef,undef,undef,undef,undef,undef,undef,undef,undef,undef,undef,undef,undef,undef,undef,undef,undef,undef,undef,undef,undef,undef,undef,undef,undef,undef,undef,undef,undef,undef,undef,undef,undef,undef,undef,undef,undef,undef,undef,undef,undef,undef,undef,undef,undef,undef,undef,undef,undef,undef,undef,undef,undef,undef,undef,undef,undef,undef,undef,undef,undef,undef,undef,undef,undef,undef,undef,undef,undef,undef,undef,undef,undef,undef,undef,undef,undef,undef,undef,undef,undef,undef,undef,undef,undef,undef,undef,undef,undef,undef,undef,undef,undef,undef,undef,undef,undef,undef,undef,undef,undef,undef,undef,undef,undef,undef,undef,undef,undef,undef,undef,undef,undef,undef,undef,undef,undef,undef,undef,undef,undef,undef,undef,undef,undef,undef,undef,undef,undef,undef,undef,undef,undef,undef,undef,undef,undef,undef,undef,undef,undef,undef,undef,undef,undef,undef,undef,undef,undef,undef,undef,undef,undef,undef,undef,undef,undef,undef,undef,undef,undef,undef,undef,undef,undef,undef,undef,undef,undef,undef,undef,undef,undef,undef,undef,undef,undef,undef,undef,undef,undef,undef,undef,undef,undef,undef,undef,undef,undef,undef,undef,undef,undef,undef,undef,undef,undef,undef,undef,undef,undef,undef,undef,undef,undef,undef,undef,undef,undef,undef,undef,undef],defers := [] }∧RgJ (w1.drew) (w1.heap.size) (ruD R g ws.length c k w1.heap.size x) ruDM l U w) ⟨fun _ =>undef,rfl,RgJ.start _ _ (Nat.le_refl _)⟩ ?_ ?_
 ·rintro l a w i ⟨U,rfl,hJ⟩ hl hi hif
  have h0:=(mem_ready.1 hi).1
  have hlt:=zhw hl h0
  have HJ:=kz hJ
  clear hJ hl
  replace hlt:i < 12:=hlt
  obtain rfl | rfl | rfl | rfl | rfl | rfl | rfl | rfl | rfl | rfl | rfl:i=0∨i=1∨i=2∨i=3∨i=4∨i=5∨i=6∨i=7∨i=8∨i=9∨i=10:=by omega
  ·refine wpOp_step rfl (fun K hK =>?_)
   clear hlt hif
   go_simp
   exact hK _ _ ⟨zae U 0 _,rfl,(oz HJ).put 0 _ h0 (Below.refl _ _) (zak (Below.refl _ _)) rfl zal (fun h =>absurd h (by decide))⟩
  ·refine wpOp_step rfl (fun K hK =>?_)
   clear hlt hif
   have d0:U 0=.pointer (some ⟨R,0,none⟩):=(oz HJ).val 0 (zar hi 0 (by kernel_rfl))
   go_simp
   exact hK _ _ ⟨zae U 1 _,(by rw [zaq d0];rfl),(oz HJ).put 1 _ h0 (Below.refl _ _) (zak (Below.refl _ _)) rfl zal (fun h =>absurd h (by decide))⟩
  ·refine wpOp_step rfl (fun K hK =>?_)
   clear hlt hif
   have d1:U 1=.pointer (some ⟨R,0,none⟩):=(oz HJ).val 1 (zar hi 1 (by kernel_rfl))
   go_simp
   exact hK _ _ ⟨zae U 2 _,(by rw [zaq d1];rfl),(oz HJ).put 2 _ h0 (Below.refl _ _) (zak (Below.refl _ _)) rfl zal (fun h =>absurd h (by decide))⟩
  ·refine wpOp_step rfl (fun K hK =>?_)
   clear hlt hif
   have d2:U 2=.pointer (some ⟨R,0,none⟩):=(oz HJ).val 2 (zar hi 2 (by kernel_rfl))
   have q:=(oz HF w (oz HJ).bel).1
   go_simp
   exact hK _ _ ⟨zae U 3 _,(by rw [zaq d2];rfl),(oz HJ).put 3 _ h0 (Below.refl _ _) (zak (Below.refl _ _)) rfl zal (fun h =>absurd h (by decide))⟩
  ·refine wpOp_step rfl (fun K hK =>?_)
   clear hlt hif
   go_simp
   exact hK _ _ ⟨zae U 4 _,rfl,(oz HJ).put 4 _ h0 (Below.refl _ _) (zak (Below.refl _ _)) rfl zal (fun h =>absurd h (by decide))⟩
  ·refine wpOp_step rfl (fun K hK =>?_)
   clear hlt hif
   have d4:U 4=.pointer (some ⟨R,0,none⟩):=(oz HJ).val 4 (zar hi 4 (by kernel_rfl))
   go_simp
   exact hK _ _ ⟨zae U 5 _,(by rw [zaq d4];rfl),(oz HJ).put 5 _ h0 (Below.refl _ _) (zak (Below.refl _ _)) rfl zal (fun h =>absurd h (by decide))⟩
  ·refine wpOp_step rfl (fun K hK =>?_)
   clear hlt hif
   have d5:U 5=.pointer (some ⟨R,0,none⟩):=(oz HJ).val 5 (zar hi 5 (by kernel_rfl))
   go_simp
   exact hK _ _ ⟨zae U 6 _,(by rw [zaq d5];rfl),(oz HJ).put 6 _ h0 (Below.refl _ _) (zak (Below.refl _ _)) rfl zal (fun h =>absurd h (by decide))⟩
  ·refine wpOp_step rfl (fun K hK =>?_)
   clear hlt hif
   have d6:U 6=.pointer (some ⟨R,1,none⟩):=(oz HJ).val 6 (zar hi 6 (by kernel_rfl))
   have q:=(oz HF w (oz HJ).bel).2.1
   go_simp
   exact hK _ _ ⟨zae U 7 _,(by rw [zaq d6];rfl),(oz HJ).put 7 _ h0 (Below.refl _ _) (zak (Below.refl _ _)) rfl zal (fun h =>absurd h (by decide))⟩
  ·refine wpOp_step rfl (fun K hK =>?_)
   clear hlt hif
   have d3:U 3=.slice (some ⟨g,0,none⟩) ws.length c:=(oz HJ).val 3 (zar hi 3 (by kernel_rfl))
   have d7:U 7=.int .i64 (k:Int):=(oz HJ).val 7 (zar hi 7 (by kernel_rfl))
   have i0:(0:Int)≤(k:Int):=by omega
   have i1:(k:Int) < (ws.length:Int):=by omega
   go_simp
   exact hK _ _ ⟨zae U 8 _,(by rw [zaq d3,zaq d7];rfl),(oz HJ).put 8 _ h0 (Below.refl _ _) (zak (Below.refl _ _)) rfl zal (fun h =>absurd h (by decide))⟩
  ·refine wpOp_step rfl (fun K hK =>?_)
   clear hlt hif
   have d8:U 8=.pointer (some ⟨g,k*6,none⟩):=(oz HJ).val 8 (zar hi 8 (by kernel_rfl))
   have q0:w.cell? ⟨g,k*6,none⟩=some (.int .i64 x.k):=(oz HF w (oz HJ).bel).2.2 0 _ rfl
   have q1:w.cell? ⟨g,k*6+1,none⟩=some (.string x.S):=(oz HF w (oz HJ).bel).2.2 1 _ rfl
   have q2:w.cell? ⟨g,k*6+2,none⟩=some (.int .i32 x.r):=(oz HF w (oz HJ).bel).2.2 2 _ rfl
   have q3:w.cell? ⟨g,k*6+3,none⟩=some (.int .i64 x.n):=(oz HF w (oz HJ).bel).2.2 3 _ rfl
   have q4:w.cell? ⟨g,k*6+4,none⟩=some (.int .i64 x.b):=(oz HF w (oz HJ).bel).2.2 4 _ rfl
   have q5:w.cell? ⟨g,k*6+5,none⟩=some (.int .i64 x.e):=(oz HF w (oz HJ).bel).2.2 5 _ rfl
   go_simp
   exact hK _ _ ⟨zae U 9 _,(by rw [zaq d8];rfl),(oz HJ).put 9 _ h0 (Below.refl _ _) (zak (Below.refl _ _)) rfl zal (fun h =>absurd h (by decide))⟩
  ·refine wpOp_step rfl (fun K hK =>?_)
   clear hlt hif
   go_simp
   exact hK _ _ ⟨zae U 10 _,rfl,(oz HJ).put 10 _ h0 ((Below.refl _ _).alloc (Nat.le_refl _) _) (zak ((Below.refl _ _).alloc (Nat.le_refl _) _)) ⟨w.heap.size,rfl,(oz HJ).sz,Blk.new w _ _⟩ zal (fun h =>absurd h (by decide))⟩
 ·rintro l a w ⟨U,rfl,hJ⟩ hall
  have hv:U 9=.agg #[.int .i64 x.k,.string x.S,.int .i32 x.r,.int .i64 x.n,.int .i64 x.b,.int .i64 x.e]:=hJ.val 9 (hall 9 (by decide) (by decide))
  obtain ⟨M,hp,hbkn,hbk⟩:=hJ.val 10 (hall 10 (by decide) (by decide))
  have hbj:=hJ.bel
  have hsj:=hJ.sz
  clear hJ hall
  have H2:=kz ((oz H1).below ((Below.refl _ _).drew.trans hbj))
  have hMR:M≠R:=by omega
  have hML:w1.heap.size≤M:=hbkn
  have HW3:Hz (∀ w9,w9=(((((((w.setCell ⟨M,0,none⟩ (.int .i64 x.k)).setCell ⟨M,1,none⟩ (.string x.S)).setCell ⟨M,2,none⟩ (.int .i32 x.r)).setCell ⟨M,3,none⟩ (.int .i64 x.n)).setCell ⟨M,4,none⟩ (.int .i64 x.b)).setCell ⟨M,5,none⟩ (.int .i64 x.e))).setCell ⟨R,1,none⟩ (.int .i64 ((k:Int)+1))→RrW W w9 lo R g (some ⟨g,0,none⟩) c ws (k+1) (-1) vs ls M x):=kz (fun w9 e =>by
   subst e
   have hb2:Below w1.heap.size w1 w:=(Below.refl _ _).drew.trans hbj
   have g1:w1.grownBy w (some R):=⟨hb2.os,hb2.tape,hb2.output,hb2.size,fun i hi _ =>hb2.block i hi⟩
   have g2:=zby g1 M hML (.int .i64 x.k) (.string x.S) (.int .i32 x.r) (.int .i64 x.n) (.int .i64 x.b) (.int .i64 x.e)
   have s2:RrS w1 _ lo R g (some ⟨g,0,none⟩) c ws k (-1) vs ls:=⟨(oz H1).upd g2 (oz H1).kn (zbg ((oz H2).blk) (Ne.symm hMR) (.int .i64 x.k) (.string x.S) (.int .i32 x.r) (.int .i64 x.n) (.int .i64 x.b) (.int .i64 x.e)),g2⟩
   have s3:=s2.next (by omega)
   have b3:=(box6 hbk (.int .i64 x.k) (.string x.S) (.int .i32 x.r) (.int .i64 x.n) (.int .i64 x.b) (.int .i64 x.e)).kept (zad _ R 1 (.int .i64 ((k:Int)+1))) (fun e =>hMR (Option.some.inj e))
   exact ⟨s3.at_,(oz HFR1).trans (Fr.grown (oz H1).lw s3.gr (fun b e =>.inl (Option.some.inj e).symm)),b3,by omega⟩)
  have e0:=hbk.cell 0
  have e1:=hbk.cell 1
  have e2:=hbk.cell 2
  have e3:=hbk.cell 3
  have e4:=hbk.cell 4
  have e5:=hbk.cell 5
  have f0:=hbk.frozen 0
  have f1:=hbk.frozen 1
  have f2:=hbk.frozen 2
  have f3:=hbk.frozen 3
  have f4:=hbk.frozen 4
  have f5:=hbk.frozen 5
  have HR5:Hz (Blk (((((((w.setCell ⟨M,0,none⟩ (.int .i64 x.k)).setCell ⟨M,1,none⟩ (.string x.S)).setCell ⟨M,2,none⟩ (.int .i32 x.r)).setCell ⟨M,3,none⟩ (.int .i64 x.n)).setCell ⟨M,4,none⟩ (.int .i64 x.b)).setCell ⟨M,5,none⟩ (.int .i64 x.e))) R (zbm (some ⟨g,0,none⟩) ws.length c k (-1) vs) 121):=kz (zbg ((oz H2).blk) (Ne.symm hMR) (.int .i64 x.k) (.string x.S) (.int .i32 x.r) (.int .i64 x.n) (.int .i64 x.b) (.int .i64 x.e))
  have hRM:R≠M:=Ne.symm hMR
  have hk1:k≤1000000:=by omega
  have HBK:=kz hbk
  clear hbj hsj hbk H2 H1 HFR1 HF
  refine wpOp_step rfl (fun K hK =>?_)
  go_simp
  refine hK _ _ ?_
  clear hK K e0 e1 e2 e3 e4 e5 f0 f1 f2 f3 f4 f5
  generalize ((((((w.setCell _ _).setCell _ _).setCell _ _).setCell _ _).setCell _ _).setCell _ _)=w5 at *
  have r1:w5.cell? ⟨R,1,none⟩=some (.int .i64 (k:Int)):=(oz HR5).cell 1
  have rf:=(oz HR5).frozen 1
  have y1:(w5.setCell ⟨R,1,none⟩ (.int .i64 ((k:Int)+1))).cell? ⟨M,1,none⟩=some (.string ⟨#[99,111,109,109,111,110]⟩):=by
   have h5:=(oz HW3 _ rfl).bx.cell 1
   rw [h5]
   show some (Value.string x.S)=_
   rw [oz HSX]
  clear HBK HSX hv hp hRM hMR
  go_wp2_with fail
  have H6:=kz (oz HW3 _ rfl)
  clear HW3 y1 r1 rf HR5
  generalize w5.setCell ⟨R,1,none⟩ _=w6 at *
  refine (oz HRS w6 (oz H6).at_).mono ?_
  rintro e w7 ⟨us,up,rfl,b2,hB2,hp7⟩
  have H7:=kz ((oz H6).call hp7.rs.at_ hp7.rs.gr)
  have HP:=kz hp7
  have HB2:=kz hB2
  have hs6:w6.heap.size≤w7.heap.size:=hp7.rs.gr.size
  have how1:=(oz H7).at_.own _ _ _ hv1 hl1
  have hblk1:∀ b,v1.ownBlock=some b→b < w6.heap.size:=zbE ((oz H6).at_.own _ _ _ hv1 hl1)
  have hblk2:∀ b,v2.ownBlock=some b→b < w6.heap.size:=zbE ((oz H6).at_.own _ _ _ hv2 hl2)
  have hR6:R < w6.heap.size:=(oz H6).at_.blk.lt
  clear HRS hp7 hB2
  obtain ⟨va1,vc1,rfl⟩:=zab how1
  obtain ⟨ia,hia,ha0,ha1,ha2⟩:=info_parts zgf
  obtain ⟨is,his,hs0,hs1,hs2⟩:=info_parts zcB
  have HIA:=kz (And.intro hia (And.intro ha0 (And.intro ha1 ha2)))
  have HIS:=kz (And.intro his (And.intro hs0 (And.intro hs1 hs2)))
  clear hia ha0 ha1 ha2 his hs0 hs1 hs2
  have t1:w7.cell? ⟨R,4,none⟩=some (.slice va1 n1 vc1):=(oz H7).at_.cell (by omega) hv1
  have tf1:=(oz H7).at_.blk.frozen 4
  obtain ⟨q1,q2,q3⟩:=oz HLN
  have hss:ss.length≤1000000:=by omega
  have HQ2:=kz q2
  clear q1 q2 q3
  have HV2:Hz (∀ v1',(vs.set 1 v1')[10]?=some v2):=kz (fun v1' =>by rw [List.getElem?_set_ne (by decide)];exact hv2)
  have HL2:Hz (∀ l1,(ls.set 1 l1)[10]?=some ⟨3,1,n2,xs2⟩):=kz (fun l1 =>by rw [List.getElem?_set_ne (by decide)];exact hl2)
  have HHL:=kz (And.intro hv1 hl1)
  clear hv2 hl2 hv1 hl1 H6 HLN
  rcases zbc (oz HP).os (fun h0 =>(oz HP).ns (List.length_eq_zero_iff.1 h0)) with ⟨rfl,hz,hxz⟩ | ⟨G,gc,rfl,hpos,hGl,hGc,hGx⟩
  ·obtain rfl:=List.length_eq_zero_iff.1 hz
   obtain rfl:=List.length_eq_zero_iff.1 (oz HQ2)
   obtain rfl:=(oz HP).np rfl
   go_wp2_with (at_builtin;refine wpList_append_own_none rfl _ _ 28 rfl lo 73 is 2 Tryz.underlying28 (oz HIS).1 _ n1 xs1 rfl how1 rfl ?_)
   have H8:Hz (RrW W (w7.setCell ⟨R,4,none⟩ (.slice va1 n1 vc1)) lo R g (some ⟨g,0,none⟩) c ws k2 b2 (vs.set 1 (.slice va1 n1 vc1)) (ls.set 1 ⟨73,2,n1,xs1⟩) M x):=kz ((oz H7).put (by omega) (oz HHL).1 (oz HHL).2 (show (73:Nat)≠123 by decide) how1 ⟨rfl,rfl,rfl,Nat.le_refl _,fun _ _ _ =>rfl⟩ (.inl rfl))
   clear H7
   go_wp2_with fail
   clear t1 tf1 how1
   generalize w7.setCell ⟨R,4,none⟩ _=w8 at *
   have how2:=(oz H8).at_.own _ _ _ (oz HV2 _) (oz HL2 _)
   obtain ⟨va2,vc2,rfl⟩:=zab how2
   have t2:w8.cell? ⟨R,13,none⟩=some (.slice va2 n2 vc2):=(oz H8).at_.cell (by omega) (oz HV2 _)
   have tf2:w8.drew.frozen? ⟨R,13,none⟩=false:=(oz H8).at_.blk.frozen 13
   go_region_law (refine za0 (by rfl) _ _ _ (by rfl) lo 3 ia 1 Tryz.underlying34 (oz HIA).1 _ n2 xs2 (by rfl) how2.drew (by rfl) ?_)
   all_goals
    have hfin:=(oz H8).put (w1:=w8) (i:=10) (by omega) (oz HV2 _) (oz HL2 _) (show (3:Nat)≠123 by decide) (n:=n2) (xs:=xs2++zbw []) (by rw [show zbw []=[] from rfl,List.append_nil];exact how2) ⟨rfl,rfl,rfl,Nat.le_refl _,fun _ _ _ =>rfl⟩ (.inl rfl)
    go_wp2_with fail
    go_end0
    exact ⟨⟨_,rfl⟩,⟨_,_,b2,oz HB2,hfin.at_.below (Below.refl _ _).drew⟩,⟨hfin.fr.os,hfin.fr.tape,hfin.fr.output,hfin.fr.size,hfin.fr.block⟩⟩
  ·have hlw7:lo≤w7.heap.size:=(oz H7).at_.lw
   have HG1:Hz (∀ b,Value.ownBlock (.slice va1 n1 vc1)=some b→lo≤b):=kz (zam how1)
   have HGX:=kz hGx
   have hpl:0 < ps.length:=by have:=oz HQ2;omega
   have hps:ps.length≤1000000:=by have:=oz HQ2;omega
   clear hGx
   go_wp2_with (at_builtin;refine wpList_append_lies _ rfl _ _ 28 rfl lo 73 is (.agg #[.int .i32 0,.int .i32 0]) 2 8 Tryz.underlying28 (oz HIS).1 (oz HIS).2.1 (oz HIS).2.2.1 (oz HIS).2.2.2 rfl (by decide) _ n1 xs1 rfl how1 ⟨G,0,none⟩ ss.length gc (zap ss) rfl (zbp ss) (oz HGX) (zbU ss) hpos (by unfold maxLen;omega) (by omega) hlw7 w7.heap.size rfl ?_)
   intro g8 cap8 w8 hown8 hg8 hat8 hlt8
   have hRne:some R≠Value.ownBlock (.slice va1 n1 vc1):=fun e =>by have:=oz HG1 R e.symm;omega
   have bR8:=(oz H7).at_.blk.kept hg8 hRne
   have u1:w8.cell? ⟨R,4,none⟩=some (.slice va1 n1 vc1):=hg8.cell (a:=⟨R,4,none⟩) t1 hRne
   have uf1:=bR8.frozen 4
   have H9:Hz (RrW W (w8.setCell ⟨R,4,none⟩ (.slice (some ⟨g8,0,none⟩) (n1+ss.length) cap8)) lo R g (some ⟨g,0,none⟩) c ws k2 b2 (vs.set 1 (.slice (some ⟨g8,0,none⟩) (n1+ss.length) cap8)) (ls.set 1 ⟨73,2,n1+ss.length,xs1++zap ss⟩) M x):=kz ((oz H7).put (by omega) (oz HHL).1 (oz HHL).2 (show (73:Nat)≠123 by decide) hown8 hg8 (by rcases hat8 with e | e;exact .inl e.symm;exact .inr (by rw [e];rfl)))
   have HOP:Hz ((w8.setCell ⟨R,4,none⟩ (.slice (some ⟨g8,0,none⟩) (n1+ss.length) cap8)).ownsRow w6.heap.size 3 1 up ps.length (zbw ps)):=kz (by
    have o1:=zat (oz HP).op hg8 (.inr fun e =>by
     cases hb:up.ownBlock with
     | none =>
      rcases zbc (oz HP).op (fun h0 =>(oz HP).np (List.length_eq_zero_iff.1 h0)) with ⟨_,h5,_⟩ | ⟨P,pc,rfl,_⟩
      ·omega
      ·cases hb
     | some b =>
      have h5:=zam (oz HP).op b hb
      have h6:=hblk1 b (e.symm.trans hb)
      omega)
    exact zat o1 (zad w8 R 4 _) (.inr fun e =>by have:=zam (oz HP).op R e;omega))
   clear hown8 hg8 hat8 hlt8 bR8 H7 HHL
   go_wp2_with fail
   clear u1 uf1 t1 tf1 how1
   generalize w8.setCell ⟨R,4,none⟩ _=w9 at *
   have how2:=(oz H9).at_.own _ _ _ (oz HV2 _) (oz HL2 _)
   obtain ⟨va2,vc2,rfl⟩:=zab how2
   have t2:w9.cell? ⟨R,13,none⟩=some (.slice va2 n2 vc2):=(oz H9).at_.cell (by omega) (oz HV2 _)
   have HG2:Hz (∀ b,Value.ownBlock (.slice va2 n2 vc2)=some b→lo≤b):=kz (zam how2)
   have hlw9:lo≤w9.heap.size:=(oz H9).at_.lw
   have hRne2:some R≠Value.ownBlock (.slice va2 n2 vc2):=fun e =>by have:=oz HG2 R e.symm;omega
   obtain ⟨P,pc,rfl,hPx⟩:∃ P pc,up=.slice (some ⟨P,0,none⟩) ps.length pc∧∀ j u,(zbw ps)[j]?=some u→w9.cell? ((⟨P,0,none⟩:Addr).add j)=some u:=by
    rcases zbc (oz HOP) (fun h0 =>by omega) with ⟨_,h5,_⟩ | ⟨P,pc,e,_,_,_,h6⟩
    ·omega
    ·exact ⟨P,pc,e,h6⟩
   have HB1:Hz (∀ u ∈ zbw ps,u.oneCell'=true):=kz (fun u hu =>by unfold zbw at hu;obtain ⟨p,_,rfl⟩:=List.mem_map.1 hu;rfl)
   have HBL:Hz ((zbw ps).length=ps.length*1):=kz (by unfold zbw;rw [List.length_map];omega)
   go_region_law (refine step_append_lies _ (by rfl) _ _ _ (by rfl) lo 3 ia (.int .i64 0) 1 8 Tryz.underlying34 (oz HIA).1 (oz HIA).2.1 (oz HIA).2.2.1 (oz HIA).2.2.2 rfl (by omega) _ n2 xs2 (by rfl) how2.drew ⟨P,0,none⟩ ps.length pc (zbw ps) (by rfl) (oz HBL) hPx (oz HB1) hpl (by unfold maxLen;omega) (by omega) hlw9 w9.heap.size (by rfl) ?_;intro gg cap w3 hown1 hgrow hatt hlt3;have q5:w3.cell? ⟨R,13,none⟩=some (.slice va2 n2 vc2):=hgrow.cell (a:=⟨R,13,none⟩) t2 hRne2;have q6:w3.frozen? ⟨R,13,none⟩=false:=(Blk.kept (W:=w9.drew) (oz H9).at_.blk hgrow hRne2).frozen 13)
   all_goals
    have hfin:=(oz H9).put (w1:=w3) (i:=10) (by omega) (oz HV2 _) (oz HL2 _) (show (3:Nat)≠123 by decide) hown1 ⟨hgrow.os,hgrow.tape,hgrow.output,hgrow.size,hgrow.block⟩ (by rcases hatt with e | e;exact .inl e.symm;exact .inr (by rw [e];rfl))
    go_wp2_with fail
    go_end0
    exact ⟨⟨_,rfl⟩,⟨_,_,b2,oz HB2,hfin.at_⟩,hfin.fr⟩
set_option maxRecDepth 100000 in
set_option maxHeartbeats 8000000 in
theorem zlg (lo R g:Nat) (a:Option Addr) (c:Nat) (ws:List W8) (k:Nat) (eb el ec:Int) (vs:List Value) (ls:List Ln) (x:W8) (hx:ws[k]?=some x) (hxk:x.k=1) (hS:x.S=⟨#[100,114,111,112]⟩) (v1 v2:Value) (n1 n2:Nat) (xs1 xs2:List Value) (hn1:n1≤1000000) (hn2:n2≤1000000) (hv1:vs[6]?=some v1) (hl1:ls[6]?=some ⟨73,2,n1,xs1⟩) (hv2:vs[15]?=some v2) (hl2:ls[15]?=some ⟨3,1,n2,xs2⟩) (W:World) (h:RrAt W lo R g a c ws k (-1) vs ls) :
  Calls Tryz.prog 47 #[.pointer (some ⟨R,0,none⟩)] W fun e w' =>(∃ r,e=.returned r)∧(∃ (v1' v2':Value) (b2:Int),BadR ws (zaf ws (k+1) none eb el ec).k eb el ec b2 (zaf ws (k+1) none eb el ec).bad∧RrAt w' lo R g a c ws (zaf ws (k+1) none eb el ec).k b2 ((vs.set 6 v1').set 15 v2') ((ls.set 6 ⟨73,2,n1+(zaf ws (k+1) none eb el ec).ss.length,xs1++zap (zaf ws (k+1) none eb el ec).ss⟩).set 15 ⟨3,1,n2+(zaf ws (k+1) none eb el ec).ps.length,xs2++zbw (zaf ws (k+1) none eb el ec).ps⟩))∧Fr lo R R W w':=by
 have hmx:Tryz.prog.follows .mixedOrders=true:=by kernel_rfl
 have hlt:=(List.getElem?_eq_some_iff.1 hx).1
 have hnm:=h.nmax
 have hcap:=h.cap
 have hRW:=h.blk.lt
 have hRl:=h.lt
 have hlw:=h.lw
 obtain ⟨rfl,hgl,hgR⟩:=h.ptr (by omega)
 have hs:zaJ ws k none 1=true:=by unfold zaJ;rw [hx];show (x.k == 1)=true;rw [hxk];rfl
 have HC:=kz (zb3 lo R g (some ⟨g,0,none⟩) c ws k (-1) none eb el ec 1 vs ls W h rfl)
 rw [hs] at HC
 have H:=kz h
 have HX:=kz hx
 have HSX:=kz hS
 have HRS:Hz (∀ w,RrAt w lo R g (some ⟨g,0,none⟩) c ws (k+1) (-1) vs ls→Calls Tryz.prog 85 #[.pointer (some ⟨R,0,none⟩)] w fun e w' => ∃ us up,e=.returned (.tuple #[us,up])∧∃ bi',BadR ws (zaf ws (k+1) none eb el ec).k eb el ec bi' (zaf ws (k+1) none eb el ec).bad∧RpSt w w' lo R g (some ⟨g,0,none⟩) c ws (zaf ws (k+1) none eb el ec).k bi' vs ls us up (zaf ws (k+1) none eb el ec).ss (zaf ws (k+1) none eb el ec).ps):=kz (fun w h5 =>zeb lo R g (some ⟨g,0,none⟩) c ws (k+1) (-1) none eb el ec vs ls w h5 rfl)
 have HLN:=kz (zbX ws eb el ec (k+1) none hlt)
 generalize zaf ws (k+1) none eb el ec=SV at *
 obtain ⟨ss,ps,k2,bad2⟩:=SV
 dsimp only at HRS HLN ⊢
 clear h hs hx hxk hS
 go_enter Tryz.func47,Tryz.ntmps47
 go_wp2_with fail
 refine (oz HC).mono ?_
 rintro e w1 ⟨rfl,hb1⟩
 have H1:=kz ((oz H).below hb1)
 have HFR1:Hz (Fr lo R R W w1):=kz ⟨hb1.os,hb1.tape,hb1.output,hb1.size,fun j hj _ _ =>hb1.block j (by omega)⟩
 have hlw1:lo≤w1.heap.size:=(oz H1).lw
 clear HC hb1
 go_wp2_with fail
 have HF:Hz (∀ w,Below w1.heap.size w1.drew w→w.cell? ⟨R,0,none⟩=some (.slice (some ⟨g,0,none⟩) ws.length c)∧w.cell? ⟨R,1,none⟩=some (.int .i64 (k:Int))∧∀ i u,(r6 x)[i]?=some u→w.cell? ⟨g,k*6+i,none⟩=some u):=kz (fun w hb =>by
  have h2:=(oz H1).below ((Below.refl _ _).drew.trans hb)
  exact ⟨h2.cells.1,h2.cells.2.1,fun i u hu =>h2.words k x (oz HX) i u hu⟩)
 refine za3 hmx 11 (by decide) (by kernel_rfl) (by kernel_rfl) (fun l a w => ∃ U:Nat→Value,a = { tmps:=#[.pointer (some ⟨R,0,none⟩),undef,U 10,undef,undef,undef,undef,undef,undef,undef,undef,undef,undef,undef,.pointer (some ⟨R,0,none⟩),.bool true,.bool false,undef,undef,U 0,U 1,U 2,U 3,U 4,U 5,U 6,U 7,U 8,U 9,undef,undef,undef,undef,undef,undef,undef,undef,undef,undef,undef,undef,undef,undef,undef,undef,undef,undef,undef,undef,undef,undef,undef,undef,undef,undef,undef,undef,undef,undef,undef,undef,undef,undef,undef,undef,undef,undef,undef,undef,undef,undef,undef,undef,undef,undef,undef,undef,undef,undef,undef,undef,undef,undef,undef,undef,undef,undef,undef,undef,undef,undef,undef,undef,undef,undef,undef,undef,undef,undef,undef,undef,undef,undef,undef,undef,undef,undef,undef,undef,undef,undef,undef,undef,undef,undef,undef,undef,undef,undef,undef,undef,undef,undef,undef,undef,undef,undef,undef,undef,undef,undef,undef,undef,undef,undef,undef,undef,undef,undef,undef,undef,undef,undef,undef,undef,undef,undef,undef,undef,undef,undef,undef,undef,undef,undef,undef,undef,undef,undef,undef,undef,undef,undef,undef,undef,undef,undef,undef,undef,undef,undef,undef,undef,undef,undef,undef,undef,undef,undef,undef,undef,undef,undef,undef,undef,undef,undef,undef,undef,undef,undef,undef,undef,undef,undef,undef,undef,undef,undef,undef,undef,undef,undef,undef,undef,undef,undef,undef,undef,undef,undef,undef,undef,undef,undef,undef,undef,undef,undef,undef,undef,undef,undef,undef,undef,undef,undef,undef,undef,undef,undef,undef,undef,undef,undef,undef,undef,undef,undef,undef,undef,undef,undef,undef,undef,undef,undef,undef,undef,undef,undef,undef,undef,undef,undef,undef,undef,undef,undef,undef,undef,undef,undef,undef,undef,undef,undef,undef],defers := [] }∧RgJ (w1.drew) (w1.heap.size) (ruD R g ws.length c k w1.heap.size x) ruDM l U w) ⟨fun _ =>undef,rfl,RgJ.start _ _ (Nat.le_refl _)⟩ ?_ ?_
 ·rintro l a w i ⟨U,rfl,hJ⟩ hl hi hif
  have h0:=(mem_ready.1 hi).1
  have hlt:=zhw hl h0
  have HJ:=kz hJ
  clear hJ hl
  replace hlt:i < 12:=hlt
  obtain rfl | rfl | rfl | rfl | rfl | rfl | rfl | rfl | rfl | rfl | rfl:i=0∨i=1∨i=2∨i=3∨i=4∨i=5∨i=6∨i=7∨i=8∨i=9∨i=10:=by omega
  ·refine wpOp_step rfl (fun K hK =>?_)
   clear hlt hif
   go_simp
   exact hK _ _ ⟨zae U 0 _,rfl,(oz HJ).put 0 _ h0 (Below.refl _ _) (zak (Below.refl _ _)) rfl zal (fun h =>absurd h (by decide))⟩
  ·refine wpOp_step rfl (fun K hK =>?_)
   clear hlt hif
   have d0:U 0=.pointer (some ⟨R,0,none⟩):=(oz HJ).val 0 (zar hi 0 (by kernel_rfl))
   go_simp
   exact hK _ _ ⟨zae U 1 _,(by rw [zaq d0];rfl),(oz HJ).put 1 _ h0 (Below.refl _ _) (zak (Below.refl _ _)) rfl zal (fun h =>absurd h (by decide))⟩
  ·refine wpOp_step rfl (fun K hK =>?_)
   clear hlt hif
   have d1:U 1=.pointer (some ⟨R,0,none⟩):=(oz HJ).val 1 (zar hi 1 (by kernel_rfl))
   go_simp
   exact hK _ _ ⟨zae U 2 _,(by rw [zaq d1];rfl),(oz HJ).put 2 _ h0 (Below.refl _ _) (zak (Below.refl _ _)) rfl zal (fun h =>absurd h (by decide))⟩
  ·refine wpOp_step rfl (fun K hK =>?_)
   clear hlt hif
   have d2:U 2=.pointer (some ⟨R,0,none⟩):=(oz HJ).val 2 (zar hi 2 (by kernel_rfl))
   have q:=(oz HF w (oz HJ).bel).1
   go_simp
   exact hK _ _ ⟨zae U 3 _,(by rw [zaq d2];rfl),(oz HJ).put 3 _ h0 (Below.refl _ _) (zak (Below.refl _ _)) rfl zal (fun h =>absurd h (by decide))⟩
  ·refine wpOp_step rfl (fun K hK =>?_)
   clear hlt hif
   go_simp
   exact hK _ _ ⟨zae U 4 _,rfl,(oz HJ).put 4 _ h0 (Below.refl _ _) (zak (Below.refl _ _)) rfl zal (fun h =>absurd h (by decide))⟩
  ·refine wpOp_step rfl (fun K hK =>?_)
   clear hlt hif
   have d4:U 4=.pointer (some ⟨R,0,none⟩):=(oz HJ).val 4 (zar hi 4 (by kernel_rfl))
   go_simp
   exact hK _ _ ⟨zae U 5 _,(by rw [zaq d4];rfl),(oz HJ).put 5 _ h0 (Below.refl _ _) (zak (Below.refl _ _)) rfl zal (fun h =>absurd h (by decide))⟩
  ·refine wpOp_step rfl (fun K hK =>?_)
   clear hlt hif
   have d5:U 5=.pointer (some ⟨R,0,none⟩):=(oz HJ).val 5 (zar hi 5 (by kernel_rfl))
   go_simp
   exact hK _ _ ⟨zae U 6 _,(by rw [zaq d5];rfl),(oz HJ).put 6 _ h0 (Below.refl _ _) (zak (Below.refl _ _)) rfl zal (fun h =>absurd h (by decide))⟩
  ·refine wpOp_step rfl (fun K hK =>?_)
   clear hlt hif
   have d6:U 6=.pointer (some ⟨R,1,none⟩):=(oz HJ).val 6 (zar hi 6 (by kernel_rfl))
   have q:=(oz HF w (oz HJ).bel).2.1
   go_simp
   exact hK _ _ ⟨zae U 7 _,(by rw [zaq d6];rfl),(oz HJ).put 7 _ h0 (Below.refl _ _) (zak (Below.refl _ _)) rfl zal (fun h =>absurd h (by decide))⟩
  ·refine wpOp_step rfl (fun K hK =>?_)
   clear hlt hif
   have d3:U 3=.slice (some ⟨g,0,none⟩) ws.length c:=(oz HJ).val 3 (zar hi 3 (by kernel_rfl))
   have d7:U 7=.int .i64 (k:Int):=(oz HJ).val 7 (zar hi 7 (by kernel_rfl))
   have i0:(0:Int)≤(k:Int):=by omega
   have i1:(k:Int) < (ws.length:Int):=by omega
   go_simp
   exact hK _ _ ⟨zae U 8 _,(by rw [zaq d3,zaq d7];rfl),(oz HJ).put 8 _ h0 (Below.refl _ _) (zak (Below.refl _ _)) rfl zal (fun h =>absurd h (by decide))⟩
  ·refine wpOp_step rfl (fun K hK =>?_)
   clear hlt hif
   have d8:U 8=.pointer (some ⟨g,k*6,none⟩):=(oz HJ).val 8 (zar hi 8 (by kernel_rfl))
   have q0:w.cell? ⟨g,k*6,none⟩=some (.int .i64 x.k):=(oz HF w (oz HJ).bel).2.2 0 _ rfl
   have q1:w.cell? ⟨g,k*6+1,none⟩=some (.string x.S):=(oz HF w (oz HJ).bel).2.2 1 _ rfl
   have q2:w.cell? ⟨g,k*6+2,none⟩=some (.int .i32 x.r):=(oz HF w (oz HJ).bel).2.2 2 _ rfl
   have q3:w.cell? ⟨g,k*6+3,none⟩=some (.int .i64 x.n):=(oz HF w (oz HJ).bel).2.2 3 _ rfl
   have q4:w.cell? ⟨g,k*6+4,none⟩=some (.int .i64 x.b):=(oz HF w (oz HJ).bel).2.2 4 _ rfl
   have q5:w.cell? ⟨g,k*6+5,none⟩=some (.int .i64 x.e):=(oz HF w (oz HJ).bel).2.2 5 _ rfl
   go_simp
   exact hK _ _ ⟨zae U 9 _,(by rw [zaq d8];rfl),(oz HJ).put 9 _ h0 (Below.refl _ _) (zak (Below.refl _ _)) rfl zal (fun h =>absurd h (by decide))⟩
  ·refine wpOp_step rfl (fun K hK =>?_)
   clear hlt hif
   go_simp
   exact hK _ _ ⟨zae U 10 _,rfl,(oz HJ).put 10 _ h0 ((Below.refl _ _).alloc (Nat.le_refl _) _) (zak ((Below.refl _ _).alloc (Nat.le_refl _) _)) ⟨w.heap.size,rfl,(oz HJ).sz,Blk.new w _ _⟩ zal (fun h =>absurd h (by decide))⟩
 ·rintro l a w ⟨U,rfl,hJ⟩ hall
  have hv:U 9=.agg #[.int .i64 x.k,.string x.S,.int .i32 x.r,.int .i64 x.n,.int .i64 x.b,.int .i64 x.e]:=hJ.val 9 (hall 9 (by decide) (by decide))
  obtain ⟨M,hp,hbkn,hbk⟩:=hJ.val 10 (hall 10 (by decide) (by decide))
  have hbj:=hJ.bel
  have hsj:=hJ.sz
  clear hJ hall
  have H2:=kz ((oz H1).below ((Below.refl _ _).drew.trans hbj))
  have hMR:M≠R:=by omega
  have hML:w1.heap.size≤M:=hbkn
  have HW3:Hz (∀ w9,w9=(((((((w.setCell ⟨M,0,none⟩ (.int .i64 x.k)).setCell ⟨M,1,none⟩ (.string x.S)).setCell ⟨M,2,none⟩ (.int .i32 x.r)).setCell ⟨M,3,none⟩ (.int .i64 x.n)).setCell ⟨M,4,none⟩ (.int .i64 x.b)).setCell ⟨M,5,none⟩ (.int .i64 x.e))).setCell ⟨R,1,none⟩ (.int .i64 ((k:Int)+1))→RrW W w9 lo R g (some ⟨g,0,none⟩) c ws (k+1) (-1) vs ls M x):=kz (fun w9 e =>by
   subst e
   have hb2:Below w1.heap.size w1 w:=(Below.refl _ _).drew.trans hbj
   have g1:w1.grownBy w (some R):=⟨hb2.os,hb2.tape,hb2.output,hb2.size,fun i hi _ =>hb2.block i hi⟩
   have g2:=zby g1 M hML (.int .i64 x.k) (.string x.S) (.int .i32 x.r) (.int .i64 x.n) (.int .i64 x.b) (.int .i64 x.e)
   have s2:RrS w1 _ lo R g (some ⟨g,0,none⟩) c ws k (-1) vs ls:=⟨(oz H1).upd g2 (oz H1).kn (zbg ((oz H2).blk) (Ne.symm hMR) (.int .i64 x.k) (.string x.S) (.int .i32 x.r) (.int .i64 x.n) (.int .i64 x.b) (.int .i64 x.e)),g2⟩
   have s3:=s2.next (by omega)
   have b3:=(box6 hbk (.int .i64 x.k) (.string x.S) (.int .i32 x.r) (.int .i64 x.n) (.int .i64 x.b) (.int .i64 x.e)).kept (zad _ R 1 (.int .i64 ((k:Int)+1))) (fun e =>hMR (Option.some.inj e))
   exact ⟨s3.at_,(oz HFR1).trans (Fr.grown (oz H1).lw s3.gr (fun b e =>.inl (Option.some.inj e).symm)),b3,by omega⟩)
  have e0:=hbk.cell 0
  have e1:=hbk.cell 1
  have e2:=hbk.cell 2
  have e3:=hbk.cell 3
  have e4:=hbk.cell 4
  have e5:=hbk.cell 5
  have f0:=hbk.frozen 0
  have f1:=hbk.frozen 1
  have f2:=hbk.frozen 2
  have f3:=hbk.frozen 3
  have f4:=hbk.frozen 4
  have f5:=hbk.frozen 5
  have HR5:Hz (Blk (((((((w.setCell ⟨M,0,none⟩ (.int .i64 x.k)).setCell ⟨M,1,none⟩ (.string x.S)).setCell ⟨M,2,none⟩ (.int .i32 x.r)).setCell ⟨M,3,none⟩ (.int .i64 x.n)).setCell ⟨M,4,none⟩ (.int .i64 x.b)).setCell ⟨M,5,none⟩ (.int .i64 x.e))) R (zbm (some ⟨g,0,none⟩) ws.length c k (-1) vs) 121):=kz (zbg ((oz H2).blk) (Ne.symm hMR) (.int .i64 x.k) (.string x.S) (.int .i32 x.r) (.int .i64 x.n) (.int .i64 x.b) (.int .i64 x.e))
  have hRM:R≠M:=Ne.symm hMR
  have hk1:k≤1000000:=by omega
  have HBK:=kz hbk
  clear hbj hsj hbk H2 H1 HFR1 HF
  refine wpOp_step rfl (fun K hK =>?_)
  go_simp
  refine hK _ _ ?_
  clear hK K e0 e1 e2 e3 e4 e5 f0 f1 f2 f3 f4 f5
  generalize ((((((w.setCell _ _).setCell _ _).setCell _ _).setCell _ _).setCell _ _).setCell _ _)=w5 at *
  have r1:w5.cell? ⟨R,1,none⟩=some (.int .i64 (k:Int)):=(oz HR5).cell 1
  have rf:=(oz HR5).frozen 1
  have y1:(w5.setCell ⟨R,1,none⟩ (.int .i64 ((k:Int)+1))).cell? ⟨M,1,none⟩=some (.string ⟨#[100,114,111,112]⟩):=by
   have h5:=(oz HW3 _ rfl).bx.cell 1
   rw [h5]
   show some (Value.string x.S)=_
   rw [oz HSX]
  clear HBK HSX hv hp hRM hMR
  go_wp2_with fail
  have H6:=kz (oz HW3 _ rfl)
  clear HW3 y1 r1 rf HR5
  generalize w5.setCell ⟨R,1,none⟩ _=w6 at *
  refine (oz HRS w6 (oz H6).at_).mono ?_
  rintro e w7 ⟨us,up,rfl,b2,hB2,hp7⟩
  have H7:=kz ((oz H6).call hp7.rs.at_ hp7.rs.gr)
  have HP:=kz hp7
  have HB2:=kz hB2
  have hs6:w6.heap.size≤w7.heap.size:=hp7.rs.gr.size
  have how1:=(oz H7).at_.own _ _ _ hv1 hl1
  have hblk1:∀ b,v1.ownBlock=some b→b < w6.heap.size:=zbE ((oz H6).at_.own _ _ _ hv1 hl1)
  have hblk2:∀ b,v2.ownBlock=some b→b < w6.heap.size:=zbE ((oz H6).at_.own _ _ _ hv2 hl2)
  have hR6:R < w6.heap.size:=(oz H6).at_.blk.lt
  clear HRS hp7 hB2
  obtain ⟨va1,vc1,rfl⟩:=zab how1
  obtain ⟨ia,hia,ha0,ha1,ha2⟩:=info_parts zgf
  obtain ⟨is,his,hs0,hs1,hs2⟩:=info_parts zcB
  have HIA:=kz (And.intro hia (And.intro ha0 (And.intro ha1 ha2)))
  have HIS:=kz (And.intro his (And.intro hs0 (And.intro hs1 hs2)))
  clear hia ha0 ha1 ha2 his hs0 hs1 hs2
  have t1:w7.cell? ⟨R,9,none⟩=some (.slice va1 n1 vc1):=(oz H7).at_.cell (by omega) hv1
  have tf1:=(oz H7).at_.blk.frozen 9
  obtain ⟨q1,q2,q3⟩:=oz HLN
  have hss:ss.length≤1000000:=by omega
  have HQ2:=kz q2
  clear q1 q2 q3
  have HV2:Hz (∀ v1',(vs.set 6 v1')[15]?=some v2):=kz (fun v1' =>by rw [List.getElem?_set_ne (by decide)];exact hv2)
  have HL2:Hz (∀ l1,(ls.set 6 l1)[15]?=some ⟨3,1,n2,xs2⟩):=kz (fun l1 =>by rw [List.getElem?_set_ne (by decide)];exact hl2)
  have HHL:=kz (And.intro hv1 hl1)
  clear hv2 hl2 hv1 hl1 H6 HLN
  rcases zbc (oz HP).os (fun h0 =>(oz HP).ns (List.length_eq_zero_iff.1 h0)) with ⟨rfl,hz,hxz⟩ | ⟨G,gc,rfl,hpos,hGl,hGc,hGx⟩
  ·obtain rfl:=List.length_eq_zero_iff.1 hz
   obtain rfl:=List.length_eq_zero_iff.1 (oz HQ2)
   obtain rfl:=(oz HP).np rfl
   go_wp2_with (at_builtin;refine wpList_append_own_none rfl _ _ 28 rfl lo 73 is 2 Tryz.underlying28 (oz HIS).1 _ n1 xs1 rfl how1 rfl ?_)
   have H8:Hz (RrW W (w7.setCell ⟨R,9,none⟩ (.slice va1 n1 vc1)) lo R g (some ⟨g,0,none⟩) c ws k2 b2 (vs.set 6 (.slice va1 n1 vc1)) (ls.set 6 ⟨73,2,n1,xs1⟩) M x):=kz ((oz H7).put (by omega) (oz HHL).1 (oz HHL).2 (show (73:Nat)≠123 by decide) how1 ⟨rfl,rfl,rfl,Nat.le_refl _,fun _ _ _ =>rfl⟩ (.inl rfl))
   clear H7
   go_wp2_with fail
   clear t1 tf1 how1
   generalize w7.setCell ⟨R,9,none⟩ _=w8 at *
   have how2:=(oz H8).at_.own _ _ _ (oz HV2 _) (oz HL2 _)
   obtain ⟨va2,vc2,rfl⟩:=zab how2
   have t2:w8.cell? ⟨R,18,none⟩=some (.slice va2 n2 vc2):=(oz H8).at_.cell (by omega) (oz HV2 _)
   have tf2:w8.drew.frozen? ⟨R,18,none⟩=false:=(oz H8).at_.blk.frozen 18
   go_region_law (refine za0 (by rfl) _ _ _ (by rfl) lo 3 ia 1 Tryz.underlying34 (oz HIA).1 _ n2 xs2 (by rfl) how2.drew (by rfl) ?_)
   all_goals
    have hfin:=(oz H8).put (w1:=w8) (i:=15) (by omega) (oz HV2 _) (oz HL2 _) (show (3:Nat)≠123 by decide) (n:=n2) (xs:=xs2++zbw []) (by rw [show zbw []=[] from rfl,List.append_nil];exact how2) ⟨rfl,rfl,rfl,Nat.le_refl _,fun _ _ _ =>rfl⟩ (.inl rfl)
    go_wp2_with fail
    go_end0
    exact ⟨⟨_,rfl⟩,⟨_,_,b2,oz HB2,hfin.at_.below (Below.refl _ _).drew⟩,⟨hfin.fr.os,hfin.fr.tape,hfin.fr.output,hfin.fr.size,hfin.fr.block⟩⟩
  ·have hlw7:lo≤w7.heap.size:=(oz H7).at_.lw
   have HG1:Hz (∀ b,Value.ownBlock (.slice va1 n1 vc1)=some b→lo≤b):=kz (zam how1)
   have HGX:=kz hGx
   have hpl:0 < ps.length:=by have:=oz HQ2;omega
   have hps:ps.length≤1000000:=by have:=oz HQ2;omega
   clear hGx
   go_wp2_with (at_builtin;refine wpList_append_lies _ rfl _ _ 28 rfl lo 73 is (.agg #[.int .i32 0,.int .i32 0]) 2 8 Tryz.underlying28 (oz HIS).1 (oz HIS).2.1 (oz HIS).2.2.1 (oz HIS).2.2.2 rfl (by decide) _ n1 xs1 rfl how1 ⟨G,0,none⟩ ss.length gc (zap ss) rfl (zbp ss) (oz HGX) (zbU ss) hpos (by unfold maxLen;omega) (by omega) hlw7 w7.heap.size rfl ?_)
   intro g8 cap8 w8 hown8 hg8 hat8 hlt8
   have hRne:some R≠Value.ownBlock (.slice va1 n1 vc1):=fun e =>by have:=oz HG1 R e.symm;omega
   have bR8:=(oz H7).at_.blk.kept hg8 hRne
   have u1:w8.cell? ⟨R,9,none⟩=some (.slice va1 n1 vc1):=hg8.cell (a:=⟨R,9,none⟩) t1 hRne
   have uf1:=bR8.frozen 9
   have H9:Hz (RrW W (w8.setCell ⟨R,9,none⟩ (.slice (some ⟨g8,0,none⟩) (n1+ss.length) cap8)) lo R g (some ⟨g,0,none⟩) c ws k2 b2 (vs.set 6 (.slice (some ⟨g8,0,none⟩) (n1+ss.length) cap8)) (ls.set 6 ⟨73,2,n1+ss.length,xs1++zap ss⟩) M x):=kz ((oz H7).put (by omega) (oz HHL).1 (oz HHL).2 (show (73:Nat)≠123 by decide) hown8 hg8 (by rcases hat8 with e | e;exact .inl e.symm;exact .inr (by rw [e];rfl)))
   have HOP:Hz ((w8.setCell ⟨R,9,none⟩ (.slice (some ⟨g8,0,none⟩) (n1+ss.length) cap8)).ownsRow w6.heap.size 3 1 up ps.length (zbw ps)):=kz (by
    have o1:=zat (oz HP).op hg8 (.inr fun e =>by
     cases hb:up.ownBlock with
     | none =>
      rcases zbc (oz HP).op (fun h0 =>(oz HP).np (List.length_eq_zero_iff.1 h0)) with ⟨_,h5,_⟩ | ⟨P,pc,rfl,_⟩
      ·omega
      ·cases hb
     | some b =>
      have h5:=zam (oz HP).op b hb
      have h6:=hblk1 b (e.symm.trans hb)
      omega)
    exact zat o1 (zad w8 R 9 _) (.inr fun e =>by have:=zam (oz HP).op R e;omega))
   clear hown8 hg8 hat8 hlt8 bR8 H7 HHL
   go_wp2_with fail
   clear u1 uf1 t1 tf1 how1
   generalize w8.setCell ⟨R,9,none⟩ _=w9 at *
   have how2:=(oz H9).at_.own _ _ _ (oz HV2 _) (oz HL2 _)
   obtain ⟨va2,vc2,rfl⟩:=zab how2
   have t2:w9.cell? ⟨R,18,none⟩=some (.slice va2 n2 vc2):=(oz H9).at_.cell (by omega) (oz HV2 _)
   have HG2:Hz (∀ b,Value.ownBlock (.slice va2 n2 vc2)=some b→lo≤b):=kz (zam how2)
   have hlw9:lo≤w9.heap.size:=(oz H9).at_.lw
   have hRne2:some R≠Value.ownBlock (.slice va2 n2 vc2):=fun e =>by have:=oz HG2 R e.symm;omega
   obtain ⟨P,pc,rfl,hPx⟩:∃ P pc,up=.slice (some ⟨P,0,none⟩) ps.length pc∧∀ j u,(zbw ps)[j]?=some u→w9.cell? ((⟨P,0,none⟩:Addr).add j)=some u:=by
    rcases zbc (oz HOP) (fun h0 =>by omega) with ⟨_,h5,_⟩ | ⟨P,pc,e,_,_,_,h6⟩
    ·omega
    ·exact ⟨P,pc,e,h6⟩
   have HB1:Hz (∀ u ∈ zbw ps,u.oneCell'=true):=kz (fun u hu =>by unfold zbw at hu;obtain ⟨p,_,rfl⟩:=List.mem_map.1 hu;rfl)
   have HBL:Hz ((zbw ps).length=ps.length*1):=kz (by unfold zbw;rw [List.length_map];omega)
   go_region_law (refine step_append_lies _ (by rfl) _ _ _ (by rfl) lo 3 ia (.int .i64 0) 1 8 Tryz.underlying34 (oz HIA).1 (oz HIA).2.1 (oz HIA).2.2.1 (oz HIA).2.2.2 rfl (by omega) _ n2 xs2 (by rfl) how2.drew ⟨P,0,none⟩ ps.length pc (zbw ps) (by rfl) (oz HBL) hPx (oz HB1) hpl (by unfold maxLen;omega) (by omega) hlw9 w9.heap.size (by rfl) ?_;intro gg cap w3 hown1 hgrow hatt hlt3;have q5:w3.cell? ⟨R,18,none⟩=some (.slice va2 n2 vc2):=hgrow.cell (a:=⟨R,18,none⟩) t2 hRne2;have q6:w3.frozen? ⟨R,18,none⟩=false:=(Blk.kept (W:=w9.drew) (oz H9).at_.blk hgrow hRne2).frozen 18)
   all_goals
    have hfin:=(oz H9).put (w1:=w3) (i:=15) (by omega) (oz HV2 _) (oz HL2 _) (show (3:Nat)≠123 by decide) hown1 ⟨hgrow.os,hgrow.tape,hgrow.output,hgrow.size,hgrow.block⟩ (by rcases hatt with e | e;exact .inl e.symm;exact .inr (by rw [e];rfl))
    go_wp2_with fail
    go_end0
    exact ⟨⟨_,rfl⟩,⟨_,_,b2,oz HB2,hfin.at_⟩,hfin.fr⟩
set_option maxRecDepth 100000 in
set_option maxHeartbeats 8000000 in
theorem zjf (lo R g:Nat) (a:Option Addr) (c:Nat) (ws:List W8) (k:Nat) (eb el ec:Int) (vs:List Value) (ls:List Ln) (x:W8) (hx:ws[k]?=some x) (hxk:x.k=1) (hS:x.S=⟨#[97,108,108,111,119]⟩) (v1 v2:Value) (n1 n2:Nat) (xs1 xs2:List Value) (hn1:n1≤1000000) (hn2:n2≤1000000) (hv1:vs[7]?=some v1) (hl1:ls[7]?=some ⟨73,2,n1,xs1⟩) (hv2:vs[16]?=some v2) (hl2:ls[16]?=some ⟨3,1,n2,xs2⟩) (W:World) (h:RrAt W lo R g a c ws k (-1) vs ls) :
  Calls Tryz.prog 47 #[.pointer (some ⟨R,0,none⟩)] W fun e w' =>(∃ r,e=.returned r)∧(∃ (v1' v2':Value) (b2:Int),BadR ws (zaf ws (k+1) none eb el ec).k eb el ec b2 (zaf ws (k+1) none eb el ec).bad∧RrAt w' lo R g a c ws (zaf ws (k+1) none eb el ec).k b2 ((vs.set 7 v1').set 16 v2') ((ls.set 7 ⟨73,2,n1+(zaf ws (k+1) none eb el ec).ss.length,xs1++zap (zaf ws (k+1) none eb el ec).ss⟩).set 16 ⟨3,1,n2+(zaf ws (k+1) none eb el ec).ps.length,xs2++zbw (zaf ws (k+1) none eb el ec).ps⟩))∧Fr lo R R W w':=by
 have hmx:Tryz.prog.follows .mixedOrders=true:=by kernel_rfl
 have hlt:=(List.getElem?_eq_some_iff.1 hx).1
 have hnm:=h.nmax
 have hcap:=h.cap
 have hRW:=h.blk.lt
 have hRl:=h.lt
 have hlw:=h.lw
 obtain ⟨rfl,hgl,hgR⟩:=h.ptr (by omega)
 have hs:zaJ ws k none 1=true:=by unfold zaJ;rw [hx];show (x.k == 1)=true;rw [hxk];rfl
 have HC:=kz (zb3 lo R g (some ⟨g,0,none⟩) c ws k (-1) none eb el ec 1 vs ls W h rfl)
 rw [hs] at HC
 have H:=kz h
 have HX:=kz hx
 have HSX:=kz hS
 have HRS:Hz (∀ w,RrAt w lo R g (some ⟨g,0,none⟩) c ws (k+1) (-1) vs ls→Calls Tryz.prog 85 #[.pointer (some ⟨R,0,none⟩)] w fun e w' => ∃ us up,e=.returned (.tuple #[us,up])∧∃ bi',BadR ws (zaf ws (k+1) none eb el ec).k eb el ec bi' (zaf ws (k+1) none eb el ec).bad∧RpSt w w' lo R g (some ⟨g,0,none⟩) c ws (zaf ws (k+1) none eb el ec).k bi' vs ls us up (zaf ws (k+1) none eb el ec).ss (zaf ws (k+1) none eb el ec).ps):=kz (fun w h5 =>zeb lo R g (some ⟨g,0,none⟩) c ws (k+1) (-1) none eb el ec vs ls w h5 rfl)
 have HLN:=kz (zbX ws eb el ec (k+1) none hlt)
 generalize zaf ws (k+1) none eb el ec=SV at *
 obtain ⟨ss,ps,k2,bad2⟩:=SV
 dsimp only at HRS HLN ⊢
 clear h hs hx hxk hS
 go_enter Tryz.func47,Tryz.ntmps47
 go_wp2_with fail
 refine (oz HC).mono ?_
 rintro e w1 ⟨rfl,hb1⟩
 have H1:=kz ((oz H).below hb1)
 have HFR1:Hz (Fr lo R R W w1):=kz ⟨hb1.os,hb1.tape,hb1.output,hb1.size,fun j hj _ _ =>hb1.block j (by omega)⟩
 have hlw1:lo≤w1.heap.size:=(oz H1).lw
 clear HC hb1
 go_wp2_with fail
 have HF:Hz (∀ w,Below w1.heap.size w1.drew w→w.cell? ⟨R,0,none⟩=some (.slice (some ⟨g,0,none⟩) ws.length c)∧w.cell? ⟨R,1,none⟩=some (.int .i64 (k:Int))∧∀ i u,(r6 x)[i]?=some u→w.cell? ⟨g,k*6+i,none⟩=some u):=kz (fun w hb =>by
  have h2:=(oz H1).below ((Below.refl _ _).drew.trans hb)
  exact ⟨h2.cells.1,h2.cells.2.1,fun i u hu =>h2.words k x (oz HX) i u hu⟩)
 refine za3 hmx 11 (by decide) (by kernel_rfl) (by kernel_rfl) (fun l a w => ∃ U:Nat→Value,a = { tmps:=#[.pointer (some ⟨R,0,none⟩),undef,U 10,undef,undef,undef,undef,undef,undef,undef,undef,undef,undef,undef,.pointer (some ⟨R,0,none⟩),.bool true,.bool false,undef,undef,U 0,U 1,U 2,U 3,U 4,U 5,U 6,U 7,U 8,U 9,undef,undef,undef,undef,undef,undef,undef,undef,undef,undef,undef,undef,undef,undef,undef,undef,undef,undef,undef,undef,undef,undef,undef,undef,undef,undef,undef,undef,undef,undef,undef,undef,undef,undef,undef,undef,undef,undef,undef,undef,undef,undef,undef,undef,undef,undef,undef,undef,undef,undef,undef,undef,undef,undef,undef,undef,undef,undef,undef,undef,undef,undef,undef,undef,undef,undef,undef,undef,undef,undef,undef,undef,undef,undef,undef,undef,undef,undef,undef,undef,undef,undef,undef,undef,undef,undef,undef,undef,undef,undef,undef,undef,undef,undef,undef,undef,undef,undef,undef,undef,undef,undef,undef,undef,undef,undef,undef,undef,undef,undef,undef,undef,undef,undef,undef,undef,undef,undef,undef,undef,undef,undef,undef,undef,undef,undef,undef,undef,undef,undef,undef,undef,undef,undef,undef,undef,undef,undef,undef,undef,undef,undef,undef,undef,undef,undef,undef,undef,undef,undef,undef,undef,undef,undef,undef,undef,undef,undef,undef,undef,undef,undef,undef,undef,undef,undef,undef,undef,undef,undef,undef,undef,undef,undef,undef,undef,undef,undef,undef,undef,undef,undef,undef,undef,undef,undef,undef,undef,undef,undef,undef,undef,undef,undef,undef,undef,undef,undef,undef,undef,undef,undef,undef,undef,undef,undef,undef,undef,undef,undef,undef,undef,undef,undef,undef,undef,undef,undef,undef,undef,undef,undef,undef,undef,undef,undef,undef,undef,undef,undef,undef,undef,undef,undef,undef,undef,undef,undef,undef],defers := [] }∧RgJ (w1.drew) (w1.heap.size) (ruD R g ws.length c k w1.heap.size x) ruDM l U w) ⟨fun _ =>undef,rfl,RgJ.start _ _ (Nat.le_refl _)⟩ ?_ ?_
 ·rintro l a w i ⟨U,rfl,hJ⟩ hl hi hif
  have h0:=(mem_ready.1 hi).1
  have hlt:=zhw hl h0
  have HJ:=kz hJ
  clear hJ hl
  replace hlt:i < 12:=hlt
  obtain rfl | rfl | rfl | rfl | rfl | rfl | rfl | rfl | rfl | rfl | rfl:i=0∨i=1∨i=2∨i=3∨i=4∨i=5∨i=6∨i=7∨i=8∨i=9∨i=10:=by omega
  ·refine wpOp_step rfl (fun K hK =>?_)
   clear hlt hif
   go_simp
   exact hK _ _ ⟨zae U 0 _,rfl,(oz HJ).put 0 _ h0 (Below.refl _ _) (zak (Below.refl _ _)) rfl zal (fun h =>absurd h (by decide))⟩
  ·refine wpOp_step rfl (fun K hK =>?_)
   clear hlt hif
   have d0:U 0=.pointer (some ⟨R,0,none⟩):=(oz HJ).val 0 (zar hi 0 (by kernel_rfl))
   go_simp
   exact hK _ _ ⟨zae U 1 _,(by rw [zaq d0];rfl),(oz HJ).put 1 _ h0 (Below.refl _ _) (zak (Below.refl _ _)) rfl zal (fun h =>absurd h (by decide))⟩
  ·refine wpOp_step rfl (fun K hK =>?_)
   clear hlt hif
   have d1:U 1=.pointer (some ⟨R,0,none⟩):=(oz HJ).val 1 (zar hi 1 (by kernel_rfl))
   go_simp
   exact hK _ _ ⟨zae U 2 _,(by rw [zaq d1];rfl),(oz HJ).put 2 _ h0 (Below.refl _ _) (zak (Below.refl _ _)) rfl zal (fun h =>absurd h (by decide))⟩
  ·refine wpOp_step rfl (fun K hK =>?_)
   clear hlt hif
   have d2:U 2=.pointer (some ⟨R,0,none⟩):=(oz HJ).val 2 (zar hi 2 (by kernel_rfl))
   have q:=(oz HF w (oz HJ).bel).1
   go_simp
   exact hK _ _ ⟨zae U 3 _,(by rw [zaq d2];rfl),(oz HJ).put 3 _ h0 (Below.refl _ _) (zak (Below.refl _ _)) rfl zal (fun h =>absurd h (by decide))⟩
  ·refine wpOp_step rfl (fun K hK =>?_)
   clear hlt hif
   go_simp
   exact hK _ _ ⟨zae U 4 _,rfl,(oz HJ).put 4 _ h0 (Below.refl _ _) (zak (Below.refl _ _)) rfl zal (fun h =>absurd h (by decide))⟩
  ·refine wpOp_step rfl (fun K hK =>?_)
   clear hlt hif
   have d4:U 4=.pointer (some ⟨R,0,none⟩):=(oz HJ).val 4 (zar hi 4 (by kernel_rfl))
   go_simp
   exact hK _ _ ⟨zae U 5 _,(by rw [zaq d4];rfl),(oz HJ).put 5 _ h0 (Below.refl _ _) (zak (Below.refl _ _)) rfl zal (fun h =>absurd h (by decide))⟩
  ·refine wpOp_step rfl (fun K hK =>?_)
   clear hlt hif
   have d5:U 5=.pointer (some ⟨R,0,none⟩):=(oz HJ).val 5 (zar hi 5 (by kernel_rfl))
   go_simp
   exact hK _ _ ⟨zae U 6 _,(by rw [zaq d5];rfl),(oz HJ).put 6 _ h0 (Below.refl _ _) (zak (Below.refl _ _)) rfl zal (fun h =>absurd h (by decide))⟩
  ·refine wpOp_step rfl (fun K hK =>?_)
   clear hlt hif
   have d6:U 6=.pointer (some ⟨R,1,none⟩):=(oz HJ).val 6 (zar hi 6 (by kernel_rfl))
   have q:=(oz HF w (oz HJ).bel).2.1
   go_simp
   exact hK _ _ ⟨zae U 7 _,(by rw [zaq d6];rfl),(oz HJ).put 7 _ h0 (Below.refl _ _) (zak (Below.refl _ _)) rfl zal (fun h =>absurd h (by decide))⟩
  ·refine wpOp_step rfl (fun K hK =>?_)
   clear hlt hif
   have d3:U 3=.slice (some ⟨g,0,none⟩) ws.length c:=(oz HJ).val 3 (zar hi 3 (by kernel_rfl))
   have d7:U 7=.int .i64 (k:Int):=(oz HJ).val 7 (zar hi 7 (by kernel_rfl))
   have i0:(0:Int)≤(k:Int):=by omega
   have i1:(k:Int) < (ws.length:Int):=by omega
   go_simp
   exact hK _ _ ⟨zae U 8 _,(by rw [zaq d3,zaq d7];rfl),(oz HJ).put 8 _ h0 (Below.refl _ _) (zak (Below.refl _ _)) rfl zal (fun h =>absurd h (by decide))⟩
  ·refine wpOp_step rfl (fun K hK =>?_)
   clear hlt hif
   have d8:U 8=.pointer (some ⟨g,k*6,none⟩):=(oz HJ).val 8 (zar hi 8 (by kernel_rfl))
   have q0:w.cell? ⟨g,k*6,none⟩=some (.int .i64 x.k):=(oz HF w (oz HJ).bel).2.2 0 _ rfl
   have q1:w.cell? ⟨g,k*6+1,none⟩=some (.string x.S):=(oz HF w (oz HJ).bel).2.2 1 _ rfl
   have q2:w.cell? ⟨g,k*6+2,none⟩=some (.int .i32 x.r):=(oz HF w (oz HJ).bel).2.2 2 _ rfl
   have q3:w.cell? ⟨g,k*6+3,none⟩=some (.int .i64 x.n):=(oz HF w (oz HJ).bel).2.2 3 _ rfl
   have q4:w.cell? ⟨g,k*6+4,none⟩=some (.int .i64 x.b):=(oz HF w (oz HJ).bel).2.2 4 _ rfl
   have q5:w.cell? ⟨g,k*6+5,none⟩=some (.int .i64 x.e):=(oz HF w (oz HJ).bel).2.2 5 _ rfl
   go_simp
   exact hK _ _ ⟨zae U 9 _,(by rw [zaq d8];rfl),(oz HJ).put 9 _ h0 (Below.refl _ _) (zak (Below.refl _ _)) rfl zal (fun h =>absurd h (by decide))⟩
  ·refine wpOp_step rfl (fun K hK =>?_)
   clear hlt hif
   go_simp
   exact hK _ _ ⟨zae U 10 _,rfl,(oz HJ).put 10 _ h0 ((Below.refl _ _).alloc (Nat.le_refl _) _) (zak ((Below.refl _ _).alloc (Nat.le_refl _) _)) ⟨w.heap.size,rfl,(oz HJ).sz,Blk.new w _ _⟩ zal (fun h =>absurd h (by decide))⟩
 ·rintro l a w ⟨U,rfl,hJ⟩ hall
  have hv:U 9=.agg #[.int .i64 x.k,.string x.S,.int .i32 x.r,.int .i64 x.n,.int .i64 x.b,.int .i64 x.e]:=hJ.val 9 (hall 9 (by decide) (by decide))
  obtain ⟨M,hp,hbkn,hbk⟩:=hJ.val 10 (hall 10 (by decide) (by decide))
  have hbj:=hJ.bel
  have hsj:=hJ.sz
  clear hJ hall
  have H2:=kz ((oz H1).below ((Below.refl _ _).drew.trans hbj))
  have hMR:M≠R:=by omega
  have hML:w1.heap.size≤M:=hbkn
  have HW3:Hz (∀ w9,w9=(((((((w.setCell ⟨M,0,none⟩ (.int .i64 x.k)).setCell ⟨M,1,none⟩ (.string x.S)).setCell ⟨M,2,none⟩ (.int .i32 x.r)).setCell ⟨M,3,none⟩ (.int .i64 x.n)).setCell ⟨M,4,none⟩ (.int .i64 x.b)).setCell ⟨M,5,none⟩ (.int .i64 x.e))).setCell ⟨R,1,none⟩ (.int .i64 ((k:Int)+1))→RrW W w9 lo R g (some ⟨g,0,none⟩) c ws (k+1) (-1) vs ls M x):=kz (fun w9 e =>by
   subst e
   have hb2:Below w1.heap.size w1 w:=(Below.refl _ _).drew.trans hbj
   have g1:w1.grownBy w (some R):=⟨hb2.os,hb2.tape,hb2.output,hb2.size,fun i hi _ =>hb2.block i hi⟩
   have g2:=zby g1 M hML (.int .i64 x.k) (.string x.S) (.int .i32 x.r) (.int .i64 x.n) (.int .i64 x.b) (.int .i64 x.e)
   have s2:RrS w1 _ lo R g (some ⟨g,0,none⟩) c ws k (-1) vs ls:=⟨(oz H1).upd g2 (oz H1).kn (zbg ((oz H2).blk) (Ne.symm hMR) (.int .i64 x.k) (.string x.S) (.int .i32 x.r) (.int .i64 x.n) (.int .i64 x.b) (.int .i64 x.e)),g2⟩
   have s3:=s2.next (by omega)
   have b3:=(box6 hbk (.int .i64 x.k) (.string x.S) (.int .i32 x.r) (.int .i64 x.n) (.int .i64 x.b) (.int .i64 x.e)).kept (zad _ R 1 (.int .i64 ((k:Int)+1))) (fun e =>hMR (Option.some.inj e))
   exact ⟨s3.at_,(oz HFR1).trans (Fr.grown (oz H1).lw s3.gr (fun b e =>.inl (Option.some.inj e).symm)),b3,by omega⟩)
  have e0:=hbk.cell 0
  have e1:=hbk.cell 1
  have e2:=hbk.cell 2
  have e3:=hbk.cell 3
  have e4:=hbk.cell 4
  have e5:=hbk.cell 5
  have f0:=hbk.frozen 0
  have f1:=hbk.frozen 1
  have f2:=hbk.frozen 2
  have f3:=hbk.frozen 3
  have f4:=hbk.frozen 4
  have f5:=hbk.frozen 5
  have HR5:Hz (Blk (((((((w.setCell ⟨M,0,none⟩ (.int .i64 x.k)).setCell ⟨M,1,none⟩ (.string x.S)).setCell ⟨M,2,none⟩ (.int .i32 x.r)).setCell ⟨M,3,none⟩ (.int .i64 x.n)).setCell ⟨M,4,none⟩ (.int .i64 x.b)).setCell ⟨M,5,none⟩ (.int .i64 x.e))) R (zbm (some ⟨g,0,none⟩) ws.length c k (-1) vs) 121):=kz (zbg ((oz H2).blk) (Ne.symm hMR) (.int .i64 x.k) (.string x.S) (.int .i32 x.r) (.int .i64 x.n) (.int .i64 x.b) (.int .i64 x.e))
  have hRM:R≠M:=Ne.symm hMR
  have hk1:k≤1000000:=by omega
  have HBK:=kz hbk
  clear hbj hsj hbk H2 H1 HFR1 HF
  refine wpOp_step rfl (fun K hK =>?_)
  go_simp
  refine hK _ _ ?_
  clear hK K e0 e1 e2 e3 e4 e5 f0 f1 f2 f3 f4 f5
  generalize ((((((w.setCell _ _).setCell _ _).setCell _ _).setCell _ _).setCell _ _).setCell _ _)=w5 at *
  have r1:w5.cell? ⟨R,1,none⟩=some (.int .i64 (k:Int)):=(oz HR5).cell 1
  have rf:=(oz HR5).frozen 1
  have y1:(w5.setCell ⟨R,1,none⟩ (.int .i64 ((k:Int)+1))).cell? ⟨M,1,none⟩=some (.string ⟨#[97,108,108,111,119]⟩):=by
   have h5:=(oz HW3 _ rfl).bx.cell 1
   rw [h5]
   show some (Value.string x.S)=_
   rw [oz HSX]
  clear HBK HSX hv hp hRM hMR
  go_wp2_with fail
  have H6:=kz (oz HW3 _ rfl)
  clear HW3 y1 r1 rf HR5
  generalize w5.setCell ⟨R,1,none⟩ _=w6 at *
  refine (oz HRS w6 (oz H6).at_).mono ?_
  rintro e w7 ⟨us,up,rfl,b2,hB2,hp7⟩
  have H7:=kz ((oz H6).call hp7.rs.at_ hp7.rs.gr)
  have HP:=kz hp7
  have HB2:=kz hB2
  have hs6:w6.heap.size≤w7.heap.size:=hp7.rs.gr.size
  have how1:=(oz H7).at_.own _ _ _ hv1 hl1
  have hblk1:∀ b,v1.ownBlock=some b→b < w6.heap.size:=zbE ((oz H6).at_.own _ _ _ hv1 hl1)
  have hblk2:∀ b,v2.ownBlock=some b→b < w6.heap.size:=zbE ((oz H6).at_.own _ _ _ hv2 hl2)
  have hR6:R < w6.heap.size:=(oz H6).at_.blk.lt
  clear HRS hp7 hB2
  obtain ⟨va1,vc1,rfl⟩:=zab how1
  obtain ⟨ia,hia,ha0,ha1,ha2⟩:=info_parts zgf
  obtain ⟨is,his,hs0,hs1,hs2⟩:=info_parts zcB
  have HIA:=kz (And.intro hia (And.intro ha0 (And.intro ha1 ha2)))
  have HIS:=kz (And.intro his (And.intro hs0 (And.intro hs1 hs2)))
  clear hia ha0 ha1 ha2 his hs0 hs1 hs2
  have t1:w7.cell? ⟨R,10,none⟩=some (.slice va1 n1 vc1):=(oz H7).at_.cell (by omega) hv1
  have tf1:=(oz H7).at_.blk.frozen 10
  obtain ⟨q1,q2,q3⟩:=oz HLN
  have hss:ss.length≤1000000:=by omega
  have HQ2:=kz q2
  clear q1 q2 q3
  have HV2:Hz (∀ v1',(vs.set 7 v1')[16]?=some v2):=kz (fun v1' =>by rw [List.getElem?_set_ne (by decide)];exact hv2)
  have HL2:Hz (∀ l1,(ls.set 7 l1)[16]?=some ⟨3,1,n2,xs2⟩):=kz (fun l1 =>by rw [List.getElem?_set_ne (by decide)];exact hl2)
  have HHL:=kz (And.intro hv1 hl1)
  clear hv2 hl2 hv1 hl1 H6 HLN
  rcases zbc (oz HP).os (fun h0 =>(oz HP).ns (List.length_eq_zero_iff.1 h0)) with ⟨rfl,hz,hxz⟩ | ⟨G,gc,rfl,hpos,hGl,hGc,hGx⟩
  ·obtain rfl:=List.length_eq_zero_iff.1 hz
   obtain rfl:=List.length_eq_zero_iff.1 (oz HQ2)
   obtain rfl:=(oz HP).np rfl
   go_wp2_with (at_builtin;refine wpList_append_own_none rfl _ _ 28 rfl lo 73 is 2 Tryz.underlying28 (oz HIS).1 _ n1 xs1 rfl how1 rfl ?_)
   have H8:Hz (RrW W (w7.setCell ⟨R,10,none⟩ (.slice va1 n1 vc1)) lo R g (some ⟨g,0,none⟩) c ws k2 b2 (vs.set 7 (.slice va1 n1 vc1)) (ls.set 7 ⟨73,2,n1,xs1⟩) M x):=kz ((oz H7).put (by omega) (oz HHL).1 (oz HHL).2 (show (73:Nat)≠123 by decide) how1 ⟨rfl,rfl,rfl,Nat.le_refl _,fun _ _ _ =>rfl⟩ (.inl rfl))
   clear H7
   go_wp2_with fail
   clear t1 tf1 how1
   generalize w7.setCell ⟨R,10,none⟩ _=w8 at *
   have how2:=(oz H8).at_.own _ _ _ (oz HV2 _) (oz HL2 _)
   obtain ⟨va2,vc2,rfl⟩:=zab how2
   have t2:w8.cell? ⟨R,19,none⟩=some (.slice va2 n2 vc2):=(oz H8).at_.cell (by omega) (oz HV2 _)
   have tf2:w8.drew.frozen? ⟨R,19,none⟩=false:=(oz H8).at_.blk.frozen 19
   go_region_law (refine za0 (by rfl) _ _ _ (by rfl) lo 3 ia 1 Tryz.underlying34 (oz HIA).1 _ n2 xs2 (by rfl) how2.drew (by rfl) ?_)
   all_goals
    have hfin:=(oz H8).put (w1:=w8) (i:=16) (by omega) (oz HV2 _) (oz HL2 _) (show (3:Nat)≠123 by decide) (n:=n2) (xs:=xs2++zbw []) (by rw [show zbw []=[] from rfl,List.append_nil];exact how2) ⟨rfl,rfl,rfl,Nat.le_refl _,fun _ _ _ =>rfl⟩ (.inl rfl)
    go_wp2_with fail
    go_end0
    exact ⟨⟨_,rfl⟩,⟨_,_,b2,oz HB2,hfin.at_.below (Below.refl _ _).drew⟩,⟨hfin.fr.os,hfin.fr.tape,hfin.fr.output,hfin.fr.size,hfin.fr.block⟩⟩
  ·have hlw7:lo≤w7.heap.size:=(oz H7).at_.lw
   have HG1:Hz (∀ b,Value.ownBlock (.slice va1 n1 vc1)=some b→lo≤b):=kz (zam how1)
   have HGX:=kz hGx
   have hpl:0 < ps.length:=by have:=oz HQ2;omega
   have hps:ps.length≤1000000:=by have:=oz HQ2;omega
   clear hGx
   go_wp2_with (at_builtin;refine wpList_append_lies _ rfl _ _ 28 rfl lo 73 is (.agg #[.int .i32 0,.int .i32 0]) 2 8 Tryz.underlying28 (oz HIS).1 (oz HIS).2.1 (oz HIS).2.2.1 (oz HIS).2.2.2 rfl (by decide) _ n1 xs1 rfl how1 ⟨G,0,none⟩ ss.length gc (zap ss) rfl (zbp ss) (oz HGX) (zbU ss) hpos (by unfold maxLen;omega) (by omega) hlw7 w7.heap.size rfl ?_)
   intro g8 cap8 w8 hown8 hg8 hat8 hlt8
   have hRne:some R≠Value.ownBlock (.slice va1 n1 vc1):=fun e =>by have:=oz HG1 R e.symm;omega
   have bR8:=(oz H7).at_.blk.kept hg8 hRne
   have u1:w8.cell? ⟨R,10,none⟩=some (.slice va1 n1 vc1):=hg8.cell (a:=⟨R,10,none⟩) t1 hRne
   have uf1:=bR8.frozen 10
   have H9:Hz (RrW W (w8.setCell ⟨R,10,none⟩ (.slice (some ⟨g8,0,none⟩) (n1+ss.length) cap8)) lo R g (some ⟨g,0,none⟩) c ws k2 b2 (vs.set 7 (.slice (some ⟨g8,0,none⟩) (n1+ss.length) cap8)) (ls.set 7 ⟨73,2,n1+ss.length,xs1++zap ss⟩) M x):=kz ((oz H7).put (by omega) (oz HHL).1 (oz HHL).2 (show (73:Nat)≠123 by decide) hown8 hg8 (by rcases hat8 with e | e;exact .inl e.symm;exact .inr (by rw [e];rfl)))
   have HOP:Hz ((w8.setCell ⟨R,10,none⟩ (.slice (some ⟨g8,0,none⟩) (n1+ss.length) cap8)).ownsRow w6.heap.size 3 1 up ps.length (zbw ps)):=kz (by
    have o1:=zat (oz HP).op hg8 (.inr fun e =>by
     cases hb:up.ownBlock with
     | none =>
      rcases zbc (oz HP).op (fun h0 =>(oz HP).np (List.length_eq_zero_iff.1 h0)) with ⟨_,h5,_⟩ | ⟨P,pc,rfl,_⟩
      ·omega
      ·cases hb
     | some b =>
      have h5:=zam (oz HP).op b hb
      have h6:=hblk1 b (e.symm.trans hb)
      omega)
    exact zat o1 (zad w8 R 10 _) (.inr fun e =>by have:=zam (oz HP).op R e;omega))
   clear hown8 hg8 hat8 hlt8 bR8 H7 HHL
   go_wp2_with fail
   clear u1 uf1 t1 tf1 how1
   generalize w8.setCell ⟨R,10,none⟩ _=w9 at *
   have how2:=(oz H9).at_.own _ _ _ (oz HV2 _) (oz HL2 _)
   obtain ⟨va2,vc2,rfl⟩:=zab how2
   have t2:w9.cell? ⟨R,19,none⟩=some (.slice va2 n2 vc2):=(oz H9).at_.cell (by omega) (oz HV2 _)
   have HG2:Hz (∀ b,Value.ownBlock (.slice va2 n2 vc2)=some b→lo≤b):=kz (zam how2)
   have hlw9:lo≤w9.heap.size:=(oz H9).at_.lw
   have hRne2:some R≠Value.ownBlock (.slice va2 n2 vc2):=fun e =>by have:=oz HG2 R e.symm;omega
   obtain ⟨P,pc,rfl,hPx⟩:∃ P pc,up=.slice (some ⟨P,0,none⟩) ps.length pc∧∀ j u,(zbw ps)[j]?=some u→w9.cell? ((⟨P,0,none⟩:Addr).add j)=some u:=by
    rcases zbc (oz HOP) (fun h0 =>by omega) with ⟨_,h5,_⟩ | ⟨P,pc,e,_,_,_,h6⟩
    ·omega
    ·exact ⟨P,pc,e,h6⟩
   have HB1:Hz (∀ u ∈ zbw ps,u.oneCell'=true):=kz (fun u hu =>by unfold zbw at hu;obtain ⟨p,_,rfl⟩:=List.mem_map.1 hu;rfl)
   have HBL:Hz ((zbw ps).length=ps.length*1):=kz (by unfold zbw;rw [List.length_map];omega)
   go_region_law (refine step_append_lies _ (by rfl) _ _ _ (by rfl) lo 3 ia (.int .i64 0) 1 8 Tryz.underlying34 (oz HIA).1 (oz HIA).2.1 (oz HIA).2.2.1 (oz HIA).2.2.2 rfl (by omega) _ n2 xs2 (by rfl) how2.drew ⟨P,0,none⟩ ps.length pc (zbw ps) (by rfl) (oz HBL) hPx (oz HB1) hpl (by unfold maxLen;omega) (by omega) hlw9 w9.heap.size (by rfl) ?_;intro gg cap w3 hown1 hgrow hatt hlt3;have q5:w3.cell? ⟨R,19,none⟩=some (.slice va2 n2 vc2):=hgrow.cell (a:=⟨R,19,none⟩) t2 hRne2;have q6:w3.frozen? ⟨R,19,none⟩=false:=(Blk.kept (W:=w9.drew) (oz H9).at_.blk hgrow hRne2).frozen 19)
   all_goals
    have hfin:=(oz H9).put (w1:=w3) (i:=16) (by omega) (oz HV2 _) (oz HL2 _) (show (3:Nat)≠123 by decide) hown1 ⟨hgrow.os,hgrow.tape,hgrow.output,hgrow.size,hgrow.block⟩ (by rcases hatt with e | e;exact .inl e.symm;exact .inr (by rw [e];rfl))
    go_wp2_with fail
    go_end0
    exact ⟨⟨_,rfl⟩,⟨_,_,b2,oz HB2,hfin.at_⟩,hfin.fr⟩
end Go.Proofs.YtmdgejgokoadlaaGreatDoor
