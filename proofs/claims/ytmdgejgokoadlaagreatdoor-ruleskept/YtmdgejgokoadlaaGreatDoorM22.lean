/- Texts of this claim, one behind the other. -/
import Derived.Test.YtmdgejgokoadlaaGreatDoorRrK
import Derived.Test.YtmdgejgokoadlaaGreatDoorM10
import Derived.Test.YtmdgejgokoadlaaGreatDoorM11
/- The reference's reader of rules: script. -/
namespace Go.Proofs.YtmdgejgokoadlaaGreatDoor
open Go.RowKit Go.Shelf
set_option linter.unusedVariables false
theorem field_r6s (a:Int) (b:ByteArray) (c d e f:Int) (w:World):(Instr.field 123 (.agg #[.int .i64 a,.string b,.int .i32 c,.int .i64 d,.int .i64 e,.int .i64 f]) 1).run Tryz.prog w=.ok (.string b) w:=by kernel_rfl
theorem RrW.more {W0 w:World} {lo R g:Nat} {a:Option Addr} {c:Nat} {ws:List W8} {k:Nat} {bi:Int} {vs:List Value} {ls:List Ln} {M:Nat} {x:W8} (h:RrW W0 w lo R g a c ws k bi vs ls M x) {u:Value} {m:Ln} (hu:w.ownsRow lo m.E m.sz u m.n m.xs) (ha:∀ (j:Nat) (y:Value),vs[j]?=some y→u.ownBlock=none∨u.ownBlock≠y.ownBlock):RrW W0 w lo R g a c ws k bi (vs++[u]) (ls++[m]) M x :=
 ⟨h.at_.more hu ha,h.fr,h.bx,h.ml⟩
set_option maxRecDepth 100000 in
set_option maxHeartbeats 8000000 in
theorem zib (lo R g:Nat) (a:Option Addr) (c:Nat) (ws:List W8) (k:Nat) (eb el ec:Int) (vs:List Value) (ls:List Ln) (x:W8) (hx:ws[k]?=some x) (hxk:x.k=1) (hS:x.S=⟨#[115,99,114,105,112,116]⟩) (v1 v2:Value) (n1 n2:Nat) (xs1 xs2:List Value) (hn1:n1≤1000000) (hn2:n2≤1000000) (hv1:vs[0]?=some v1) (hl1:ls[0]?=some ⟨71,2,n1,xs1⟩) (hv2:vs[9]?=some v2) (hl2:ls[9]?=some ⟨3,1,n2,xs2⟩) (W:World) (h:RrAt W lo R g a c ws k (-1) vs ls) :
  Calls Tryz.prog 47 #[.pointer (some ⟨R,0,none⟩)] W fun e w' =>(∃ r,e=.returned r)∧(∃ (u v1' v2':Value) (b2:Int),BadR ws (zaU ws (k+1) none eb el ec).sp.k eb el ec b2 (zaU ws (k+1) none eb el ec).sp.bad∧RrAt w' lo R g a c ws (zaU ws (k+1) none eb el ec).sp.k b2 (((vs++[u]).set 0 v1').set 9 v2') (((ls++[Ln.mk 73 2 (zaU ws (k+1) none eb el ec).sp.ss.length (zap (zaU ws (k+1) none eb el ec).sp.ss)]).set 0 (Ln.mk 71 2 (n1+1) (xs1++[Value.string (zaU ws (k+1) none eb el ec).nm,u]))).set 9 (Ln.mk 3 1 (n2+1) (xs2++[Value.int .i64 x.b]))))∧Fr lo R R W w':=by
 have hmx:Tryz.prog.follows .mixedOrders=true:=by kernel_rfl
 have hlt:=(List.getElem?_eq_some_iff.1 hx).1
 have hnm:=h.nmax
 have hcap:=h.cap
 have hRW:=h.blk.lt
 have hRl:=h.lt
 have hlw:=h.lw
 obtain ⟨rfl,hgl,hgR⟩:=h.ptr (by omega)
 have hs:zaJ ws k none 1=true:=by unfold zaJ;rw [hx];show (x.k == 1)=true;rw [hxk];rfl
 have HC:=kz (zb3 lo R g (some ⟨g,0,none⟩) c ws k (-1) none eb el ec 1 vs ls W h rfl)
 rw [hs] at HC
 have H:=kz h
 have HX:=kz hx
 have HSX:=kz hS
 obtain ⟨T0,hT0⟩:∃ T,T=zaa ws (k+1) none eb el ec 1:=⟨_,rfl⟩
 obtain ⟨ST,hST⟩:∃ T,T=zaf ws T0.k T0.bad eb el ec:=⟨_,rfl⟩
 have HV:Hz (zaU ws (k+1) none eb el ec=⟨T0.x.S,ST⟩):=kz (by rw [hST,hT0];rfl)
 generalize zaU ws (k+1) none eb el ec=SV at *
 have E0:=kz hT0
 have ES:=kz hST
 clear hT0 hST
 obtain ⟨x1,k1,bad1⟩:=T0
 obtain ⟨ss,ps,k2,bad2⟩:=ST
 dsimp only at HV E0 ES
 clear h hs hx hxk hS
 go_enter Tryz.func47,Tryz.ntmps47
 go_wp2_with fail
 refine (oz HC).mono ?_
 rintro e w1 ⟨rfl,hb1⟩
 have H1:=kz ((oz H).below hb1)
 have HFR1:Hz (Fr lo R R W w1):=kz ⟨hb1.os,hb1.tape,hb1.output,hb1.size,fun j hj _ _ =>hb1.block j (by omega)⟩
 have hlw1:lo≤w1.heap.size:=(oz H1).lw
 clear HC hb1
 go_wp2_with fail
 have HF:Hz (∀ w,Below w1.heap.size w1.drew w→w.cell? ⟨R,0,none⟩=some (.slice (some ⟨g,0,none⟩) ws.length c)∧w.cell? ⟨R,1,none⟩=some (.int .i64 (k:Int))∧∀ i u,(r6 x)[i]?=some u→w.cell? ⟨g,k*6+i,none⟩=some u):=kz (fun w hb =>by
  have h2:=(oz H1).below ((Below.refl _ _).drew.trans hb)
  exact ⟨h2.cells.1,h2.cells.2.1,fun i u hu =>h2.words k x (oz HX) i u hu⟩)
 refine za3 hmx 11 (by decide) (by kernel_rfl) (by kernel_rfl) (fun l a w => ∃ U:Nat→Value,a = { tmps:=#[.pointer (some ⟨R,0,none⟩),undef,U 10,undef,undef,undef,undef,undef,undef,undef,undef,undef,undef,undef,.pointer (some ⟨R,0,none⟩),.bool true,.bool false,undef,undef,U 0,U 1,U 2,U 3,U 4,U 5,U 6,U 7,U 8,U 9,undef,undef,undef,undef,undef,undef,undef,undef,undef,undef,undef,undef,undef,undef,undef,undef,undef,undef,undef,undef,undef,undef,undef,undef,undef,undef,undef,undef,undef,undef,undef,undef,undef,undef,undef,undef,undef,undef,undef,undef,undef,undef,undef,undef,undef,undef,undef,undef,undef,undef,undef,undef,undef,undef,undef,undef,undef,undef,undef,undef,undef,undef,undef,undef,undef,undef,undef,undef,undef,undef,undef,undef,undef,undef,undef,undef,undef,undef,undef,undef,undef,undef,undef,undef,undef,undef,undef,undef,undef,undef,undef,undef,undef,undef,undef,undef,undef,undef,undef,undef,undef,undef,undef,undef,undef,undef,undef,undef,undef,undef,undef,undef,undef,undef,undef,undef,undef,undef,undef,undef,undef,undef,undef,undef,undef,undef,undef,undef,undef,undef,undef,undef,undef,undef,undef,undef,undef,undef,undef,undef,undef,undef,undef,undef,undef,undef,undef,undef,undef,undef,undef,undef,undef,undef,undef,undef,undef,undef,undef,undef,undef,undef,undef,undef,undef,undef,undef,undef,undef,undef,undef,undef,undef,undef,undef,undef,undef,undef,undef,undef,undef,undef,undef,undef,undef,undef,undef,undef,undef,undef,undef,undef,undef,undef,undef,undef,undef,undef,undef,undef,undef,undef,undef,undef,undef,undef,undef,undef,undef,undef,undef,undef,undef,undef,undef,undef,undef,undef,undef,undef,undef,undef,undef,undef,undef,undef,undef,undef,undef,undef,undef,undef,undef,undef,undef,undef,undef,undef,undef],defers := [] }∧RgJ (w1.drew) (w1.heap.size) (ruD R g ws.length c k w1.heap.size x) ruDM l U w) ⟨fun _ =>undef,rfl,RgJ.start _ _ (Nat.le_refl _)⟩ ?_ ?_
 ·rintro l a w i ⟨U,rfl,hJ⟩ hl hi hif
  have h0:=(mem_ready.1 hi).1
  have hlt:=zhw hl h0
  have HJ:=kz hJ
  clear hJ hl
  replace hlt:i < 12:=hlt
  obtain rfl | rfl | rfl | rfl | rfl | rfl | rfl | rfl | rfl | rfl | rfl:i=0∨i=1∨i=2∨i=3∨i=4∨i=5∨i=6∨i=7∨i=8∨i=9∨i=10:=by omega
  ·refine wpOp_step rfl (fun K hK =>?_)
   clear hlt hif
   go_simp
   exact hK _ _ ⟨zae U 0 _,rfl,(oz HJ).put 0 _ h0 (Below.refl _ _) (zak (Below.refl _ _)) rfl zal (fun h =>absurd h (by decide))⟩
  ·refine wpOp_step rfl (fun K hK =>?_)
   clear hlt hif
   have d0:U 0=.pointer (some ⟨R,0,none⟩):=(oz HJ).val 0 (zar hi 0 (by kernel_rfl))
   go_simp
   exact hK _ _ ⟨zae U 1 _,(by rw [zaq d0];rfl),(oz HJ).put 1 _ h0 (Below.refl _ _) (zak (Below.refl _ _)) rfl zal (fun h =>absurd h (by decide))⟩
  ·refine wpOp_step rfl (fun K hK =>?_)
   clear hlt hif
   have d1:U 1=.pointer (some ⟨R,0,none⟩):=(oz HJ).val 1 (zar hi 1 (by kernel_rfl))
   go_simp
   exact hK _ _ ⟨zae U 2 _,(by rw [zaq d1];rfl),(oz HJ).put 2 _ h0 (Below.refl _ _) (zak (Below.refl _ _)) rfl zal (fun h =>absurd h (by decide))⟩
  ·refine wpOp_step rfl (fun K hK =>?_)
   clear hlt hif
   have d2:U 2=.pointer (some ⟨R,0,none⟩):=(oz HJ).val 2 (zar hi 2 (by kernel_rfl))
   have q:=(oz HF w (oz HJ).bel).1
   go_simp
   exact hK _ _ ⟨zae U 3 _,(by rw [zaq d2];rfl),(oz HJ).put 3 _ h0 (Below.refl _ _) (zak (Below.refl _ _)) rfl zal (fun h =>absurd h (by decide))⟩
  ·refine wpOp_step rfl (fun K hK =>?_)
   clear hlt hif
   go_simp
   exact hK _ _ ⟨zae U 4 _,rfl,(oz HJ).put 4 _ h0 (Below.refl _ _) (zak (Below.refl _ _)) rfl zal (fun h =>absurd h (by decide))⟩
  ·refine wpOp_step rfl (fun K hK =>?_)
   clear hlt hif
   have d4:U 4=.pointer (some ⟨R,0,none⟩):=(oz HJ).val 4 (zar hi 4 (by kernel_rfl))
   go_simp
   exact hK _ _ ⟨zae U 5 _,(by rw [zaq d4];rfl),(oz HJ).put 5 _ h0 (Below.refl _ _) (zak (Below.refl _ _)) rfl zal (fun h =>absurd h (by decide))⟩
  ·refine wpOp_step rfl (fun K hK =>?_)
   clear hlt hif
   have d5:U 5=.pointer (some ⟨R,0,none⟩):=(oz HJ).val 5 (zar hi 5 (by kernel_rfl))
   go_simp
   exact hK _ _ ⟨zae U 6 _,(by rw [zaq d5];rfl),(oz HJ).put 6 _ h0 (Below.refl _ _) (zak (Below.refl _ _)) rfl zal (fun h =>absurd h (by decide))⟩
  ·refine wpOp_step rfl (fun K hK =>?_)
   clear hlt hif
   have d6:U 6=.pointer (some ⟨R,1,none⟩):=(oz HJ).val 6 (zar hi 6 (by kernel_rfl))
   have q:=(oz HF w (oz HJ).bel).2.1
   go_simp
   exact hK _ _ ⟨zae U 7 _,(by rw [zaq d6];rfl),(oz HJ).put 7 _ h0 (Below.refl _ _) (zak (Below.refl _ _)) rfl zal (fun h =>absurd h (by decide))⟩
  ·refine wpOp_step rfl (fun K hK =>?_)
   clear hlt hif
   have d3:U 3=.slice (some ⟨g,0,none⟩) ws.length c:=(oz HJ).val 3 (zar hi 3 (by kernel_rfl))
   have d7:U 7=.int .i64 (k:Int):=(oz HJ).val 7 (zar hi 7 (by kernel_rfl))
   have i0:(0:Int)≤(k:Int):=by omega
   have i1:(k:Int) < (ws.length:Int):=by omega
   go_simp
   exact hK _ _ ⟨zae U 8 _,(by rw [zaq d3,zaq d7];rfl),(oz HJ).put 8 _ h0 (Below.refl _ _) (zak (Below.refl _ _)) rfl zal (fun h =>absurd h (by decide))⟩
  ·refine wpOp_step rfl (fun K hK =>?_)
   clear hlt hif
   have d8:U 8=.pointer (some ⟨g,k*6,none⟩):=(oz HJ).val 8 (zar hi 8 (by kernel_rfl))
   have q0:w.cell? ⟨g,k*6,none⟩=some (.int .i64 x.k):=(oz HF w (oz HJ).bel).2.2 0 _ rfl
   have q1:w.cell? ⟨g,k*6+1,none⟩=some (.string x.S):=(oz HF w (oz HJ).bel).2.2 1 _ rfl
   have q2:w.cell? ⟨g,k*6+2,none⟩=some (.int .i32 x.r):=(oz HF w (oz HJ).bel).2.2 2 _ rfl
   have q3:w.cell? ⟨g,k*6+3,none⟩=some (.int .i64 x.n):=(oz HF w (oz HJ).bel).2.2 3 _ rfl
   have q4:w.cell? ⟨g,k*6+4,none⟩=some (.int .i64 x.b):=(oz HF w (oz HJ).bel).2.2 4 _ rfl
   have q5:w.cell? ⟨g,k*6+5,none⟩=some (.int .i64 x.e):=(oz HF w (oz HJ).bel).2.2 5 _ rfl
   go_simp
   exact hK _ _ ⟨zae U 9 _,(by rw [zaq d8];rfl),(oz HJ).put 9 _ h0 (Below.refl _ _) (zak (Below.refl _ _)) rfl zal (fun h =>absurd h (by decide))⟩
  ·refine wpOp_step rfl (fun K hK =>?_)
   clear hlt hif
   go_simp
   exact hK _ _ ⟨zae U 10 _,rfl,(oz HJ).put 10 _ h0 ((Below.refl _ _).alloc (Nat.le_refl _) _) (zak ((Below.refl _ _).alloc (Nat.le_refl _) _)) ⟨w.heap.size,rfl,(oz HJ).sz,Blk.new w _ _⟩ zal (fun h =>absurd h (by decide))⟩
 ·rintro l a w ⟨U,rfl,hJ⟩ hall
  have hv:U 9=.agg #[.int .i64 x.k,.string x.S,.int .i32 x.r,.int .i64 x.n,.int .i64 x.b,.int .i64 x.e]:=hJ.val 9 (hall 9 (by decide) (by decide))
  obtain ⟨M,hp,hbkn,hbk⟩:=hJ.val 10 (hall 10 (by decide) (by decide))
  have hbj:=hJ.bel
  have hsj:=hJ.sz
  clear hJ hall
  have H2:=kz ((oz H1).below ((Below.refl _ _).drew.trans hbj))
  have hMR:M≠R:=by omega
  have hML:w1.heap.size≤M:=hbkn
  have HW3:Hz (∀ w9,w9=(((((((w.setCell ⟨M,0,none⟩ (.int .i64 x.k)).setCell ⟨M,1,none⟩ (.string x.S)).setCell ⟨M,2,none⟩ (.int .i32 x.r)).setCell ⟨M,3,none⟩ (.int .i64 x.n)).setCell ⟨M,4,none⟩ (.int .i64 x.b)).setCell ⟨M,5,none⟩ (.int .i64 x.e))).setCell ⟨R,1,none⟩ (.int .i64 ((k:Int)+1))→RrW W w9 lo R g (some ⟨g,0,none⟩) c ws (k+1) (-1) vs ls M x):=kz (fun w9 e =>by
   subst e
   have hb2:Below w1.heap.size w1 w:=(Below.refl _ _).drew.trans hbj
   have g1:w1.grownBy w (some R):=⟨hb2.os,hb2.tape,hb2.output,hb2.size,fun i hi _ =>hb2.block i hi⟩
   have g2:=zby g1 M hML (.int .i64 x.k) (.string x.S) (.int .i32 x.r) (.int .i64 x.n) (.int .i64 x.b) (.int .i64 x.e)
   have s2:RrS w1 _ lo R g (some ⟨g,0,none⟩) c ws k (-1) vs ls:=⟨(oz H1).upd g2 (oz H1).kn (zbg ((oz H2).blk) (Ne.symm hMR) (.int .i64 x.k) (.string x.S) (.int .i32 x.r) (.int .i64 x.n) (.int .i64 x.b) (.int .i64 x.e)),g2⟩
   have s3:=s2.next (by omega)
   have b3:=(box6 hbk (.int .i64 x.k) (.string x.S) (.int .i32 x.r) (.int .i64 x.n) (.int .i64 x.b) (.int .i64 x.e)).kept (zad _ R 1 (.int .i64 ((k:Int)+1))) (fun e =>hMR (Option.some.inj e))
   exact ⟨s3.at_,(oz HFR1).trans (Fr.grown (oz H1).lw s3.gr (fun b e =>.inl (Option.some.inj e).symm)),b3,by omega⟩)
  have e0:=hbk.cell 0
  have e1:=hbk.cell 1
  have e2:=hbk.cell 2
  have e3:=hbk.cell 3
  have e4:=hbk.cell 4
  have e5:=hbk.cell 5
  have f0:=hbk.frozen 0
  have f1:=hbk.frozen 1
  have f2:=hbk.frozen 2
  have f3:=hbk.frozen 3
  have f4:=hbk.frozen 4
  have f5:=hbk.frozen 5
  have HR5:Hz (Blk (((((((w.setCell ⟨M,0,none⟩ (.int .i64 x.k)).setCell ⟨M,1,none⟩ (.string x.S)).setCell ⟨M,2,none⟩ (.int .i32 x.r)).setCell ⟨M,3,none⟩ (.int .i64 x.n)).setCell ⟨M,4,none⟩ (.int .i64 x.b)).setCell ⟨M,5,none⟩ (.int .i64 x.e))) R (zbm (some ⟨g,0,none⟩) ws.length c k (-1) vs) 121):=kz (zbg ((oz H2).blk) (Ne.symm hMR) (.int .i64 x.k) (.string x.S) (.int .i32 x.r) (.int .i64 x.n) (.int .i64 x.b) (.int .i64 x.e))
  have hRM:R≠M:=Ne.symm hMR
  have hk1:k≤1000000:=by omega
  have HBK:=kz hbk
  clear hbj hsj hbk H2 H1 HFR1 HF
  refine wpOp_step rfl (fun K hK =>?_)
  go_simp
  refine hK _ _ ?_
  clear hK K e0 e1 e2 e3 e4 e5 f0 f1 f2 f3 f4 f5
  generalize ((((((w.setCell _ _).setCell _ _).setCell _ _).setCell _ _).setCell _ _).setCell _ _)=w5 at *
  have r1:w5.cell? ⟨R,1,none⟩=some (.int .i64 (k:Int)):=(oz HR5).cell 1
  have rf:=(oz HR5).frozen 1
  have y1:(w5.setCell ⟨R,1,none⟩ (.int .i64 ((k:Int)+1))).cell? ⟨M,1,none⟩=some (.string ⟨#[115,99,114,105,112,116]⟩):=by
   have h5:=(oz HW3 _ rfl).bx.cell 1
   rw [h5]
   show some (Value.string x.S)=_
   rw [oz HSX]
  clear HBK hv hp hRM hMR
  go_wp2_with fail
  have H6:=kz (oz HW3 _ rfl)
  clear HW3 y1 r1 rf HR5
  generalize w5.setCell ⟨R,1,none⟩ _=w6 at *
  have HC:=kz (zaE lo R g (some ⟨g,0,none⟩) c ws (k+1) (-1) none eb el ec 1 vs ls w6 (oz H6).at_ rfl)
  rw [← oz E0] at HC
  dsimp only at HC
  unfold r6V at HC
  refine (oz HC).mono ?_
  rintro e w7 ⟨rfl,⟨b1,hB1,hR1⟩,hg1⟩
  have HB1:=kz hB1
  have Q7:=kz (RrQ.start ((oz H6).call hR1 hg1) #[.string x1.S,.slice none 0 0] 71)
  have hf:=field_r6s x1.k x1.S x1.r x1.n x1.b x1.e
  clear HC hR1 hg1 hB1 H6
  go_wp2_with fail
  clear hf
  generalize w7.alloc _=w8 at *
  generalize hBB:w7.heap.size=B at *
  clear hBB
  have HC:=kz (zeb lo R g (some ⟨g,0,none⟩) c ws k1 b1 bad1 eb el ec vs ls w8 (oz Q7).rs.at_ (oz HB1))
  rw [← oz ES] at HC
  dsimp only at HC
  refine (oz HC).mono ?_
  rintro e w10 ⟨us,up,rfl,b3,hB3,hp⟩
  have HB3:=kz hB3
  have Q10:=kz ((oz Q7).call hp.rs.at_ hp.rs.gr)
  have hB8:B < w8.heap.size:=(oz Q7).bb.lt
  obtain ⟨ua,uc,hua⟩:=zab hp.os
  subst hua
  have HOS:=kz hp.os
  have HLT:Hz (∀ (j:Nat) (y:Value),vs[j]?=some y→∀ b,y.ownBlock=some b→b < w8.heap.size):=kz (fun j y hy b hb =>by
   have hr:=(oz Q7).rs.at_
   obtain ⟨l,hl⟩:∃ l,ls[j]?=some l:=⟨_,List.getElem?_eq_getElem (by have:=(List.getElem?_eq_some_iff.1 hy).1;have:=hr.ll;omega)⟩
   exact zbE (hr.own j y l hy hl) b hb)
  have hlo8:lo≤w8.heap.size:=(oz Q7).rs.at_.lw
  clear HC hB3 hp Q7
  have e1:=(oz Q10).bb.cell 1
  have f1:=(oz Q10).bb.frozen 1
  have Q11:=kz ((oz Q10).store 1 (.slice ua ss.length uc))
  have HOS11:Hz ((w10.setCell ⟨B,1,none⟩ (.slice ua ss.length uc)).ownsRow lo 73 2 (.slice ua ss.length uc) ss.length (zap ss)):=kz (zat (zdk (oz HOS) hlo8) (zad w10 B 1 _) (.inr fun e =>by have:=zam (oz HOS) B e;omega))
  have HAP:Hz (∀ (j:Nat) (y:Value),vs[j]?=some y→Value.ownBlock (.slice ua ss.length uc)=none∨Value.ownBlock (.slice ua ss.length uc)≠y.ownBlock):=kz (fun j y hy =>by
   cases hb:Value.ownBlock (.slice ua ss.length uc) with
   | none =>exact .inl rfl
   | some b =>
    refine .inr fun e =>?_
    have h5:=zam (oz HOS) b hb
    have h6:=oz HLT j y hy b e.symm
    omega)
  go_wp2_with fail
  clear e1 f1 Q10 HOS HLT
  generalize w10.setCell _ _=w11 at *
  have HMW:=kz ((oz Q11).toW.more (m:=⟨73,2,ss.length,zap ss⟩) (oz HOS11) (oz HAP))
  have hlv:=(oz Q11).rs.at_.lv
  have hll:=(oz Q11).rs.at_.ll
  obtain ⟨vs2,hvs2⟩:∃ v,v=vs++[Value.slice ua ss.length uc]:=⟨_,rfl⟩
  obtain ⟨ls2,hls2⟩:∃ l,l=ls++[(⟨73,2,ss.length,zap ss⟩:Ln)]:=⟨_,rfl⟩
  rw [← hvs2, ← hls2] at HMW
  replace hv1:vs2[0]?=some v1:=by rw [hvs2,List.getElem?_append_left (by omega)];exact hv1
  replace hv2:vs2[9]?=some v2:=by rw [hvs2,List.getElem?_append_left (by omega)];exact hv2
  replace hl1:ls2[0]?=some ⟨71,2,n1,xs1⟩:=by rw [hls2,List.getElem?_append_left (by omega)];exact hl1
  replace hl2:ls2[9]?=some ⟨3,1,n2,xs2⟩:=by rw [hls2,List.getElem?_append_left (by omega)];exact hl2
  have HVS:=kz (And.intro hvs2 hls2)
  clear hvs2 hls2 HAP HOS11 hlv hll
  obtain ⟨is,his,hs0,hs1,hs2⟩:=info_parts zff
  have HIS:=kz (And.intro his (And.intro hs0 (And.intro hs1 hs2)))
  clear his hs0 hs1 hs2
  have HV2:Hz (∀ v1',(vs2.set 0 v1')[9]?=some v2):=kz (fun v1' =>by rw [List.getElem?_set_ne (by decide)];exact hv2)
  have HL2:Hz (∀ l1,(ls2.set 0 l1)[9]?=some ⟨3,1,n2,xs2⟩):=kz (fun l1 =>by rw [List.getElem?_set_ne (by decide)];exact hl2)
  have HW:=HMW
  have hbA:Below w11.heap.size w11 (w11.alloc (.cells #[.string x1.S,.slice ua ss.length uc] 71)):=(Below.refl _ _).alloc (Nat.le_refl _) _
  have HA:=kz ((oz HW).call ((oz HW).at_.below hbA) ⟨hbA.os,hbA.tape,hbA.output,hbA.size,fun i hi _ =>hbA.block i hi⟩)
  have how1:=(oz HW).at_.own _ _ _ hv1 hl1
  obtain ⟨va1,vc1,rfl⟩:=zab how1
  have howA:=(oz HA).at_.own _ _ _ hv1 hl1
  have HN:=kz (Blk.new w11 #[.string x1.S,.slice ua ss.length uc] 71)
  have t1:w11.cell? ⟨R,3,none⟩=some (.slice va1 n1 vc1):=(oz HW).at_.cell (by omega) hv1
  have s1:(w11.alloc (.cells #[.string x1.S,.slice ua ss.length uc] 71)).cell? ⟨R,3,none⟩=some (.slice va1 n1 vc1):=(oz HA).at_.cell (by omega) hv1
  have HG1:Hz (∀ b,Value.ownBlock (.slice va1 n1 vc1)=some b→lo≤b):=kz (zam how1)
  have hRne:some R≠Value.ownBlock (.slice va1 n1 vc1):=fun e =>by have:=oz HG1 R e.symm;omega
  have hlww:lo≤w11.heap.size:=(oz HW).at_.lw
  have HHL:=kz (And.intro hv1 hl1)
  have m0:w11.cell? ⟨B,0,none⟩=some (.string x1.S):=(oz Q11).bb.cell 0
  have m1:w11.cell? ⟨B,1,none⟩=some (.slice ua ss.length uc):=(oz Q11).bb.cell 1
  have HNW:Hz (∀ j u,([.string x1.S,.slice ua ss.length uc] : List Value)[j]?=some u→(w11.alloc (.cells #[.string x1.S,.slice ua ss.length uc] 71)).drew.cell? ((⟨w11.heap.size,0,none⟩:Addr).add j)=some u):=kz (fun j u hj =>by
   have e:=(oz HN).cell j
   rw [List.getElem?_toArray,hj] at e
   have ea:(⟨w11.heap.size,0,none⟩:Addr).add j=⟨w11.heap.size,j,none⟩:=by cases j <;> simp [Addr.add]
   rw [ea]
   exact e)
  clear hbA how1 hv2 hl2 Q11 HW
  go_region_law (refine step_append_lies _ (by rfl) _ _ _ (by rfl) lo 71 is (.agg #[.string ⟨#[]⟩,.slice none 0 0]) 2 40 Tryz.underlying27 (oz HIS).1 (oz HIS).2.1 (oz HIS).2.2.1 (oz HIS).2.2.2 rfl (by omega) _ n1 xs1 (by rfl) howA.drew ⟨w11.heap.size,0,none⟩ 1 1 [.string x1.S,.slice ua ss.length uc] (by rfl) (by simp) (oz HNW) (by intro u hu;simp at hu;rcases hu with rfl | rfl <;> rfl) (by omega) (by unfold maxLen;omega) (by omega) (by show lo≤(World.alloc _ _).heap.size;rw [World.size_alloc];omega) (w11.heap.size+1) (by show (World.alloc _ _).heap.size=_;rw [World.size_alloc]) ?_;intro gg cap w3 hown1 hgrow hatt hlt3;have q1:w3.cell? ⟨R,3,none⟩=some (.slice va1 n1 vc1):=hgrow.cell (a:=⟨R,3,none⟩) s1 hRne;have q2:w3.frozen? ⟨R,3,none⟩=false:=(Blk.kept (W:=(w11.alloc (.cells #[.string x1.S,.slice ua ss.length uc] 71)).drew) (oz HA).at_.blk hgrow hRne).frozen 3)
  all_goals
   have HAD:=kz ((oz HA).call (w':=(w11.alloc (.cells #[.string x1.S,.slice ua ss.length uc] 71)).drew) ((oz HA).at_.below (Below.refl _ _).drew) ⟨rfl,rfl,rfl,Nat.le_refl _,fun _ _ _ =>rfl⟩)
   have H20:Hz (RrW W (w3.setCell ⟨R,3,none⟩ (.slice (some ⟨gg,0,none⟩) (n1+1) cap)) lo R g (some ⟨g,0,none⟩) c ws k2 b3 (vs2.set 0 (.slice (some ⟨gg,0,none⟩) (n1+1) cap)) (ls2.set 0 ⟨71,2,n1+1,xs1++[.string x1.S,.slice ua ss.length uc]⟩) M x):=kz ((oz HAD).put (by omega) (oz HHL).1 (oz HHL).2 (show (71:Nat)≠123 by decide) hown1 ⟨hgrow.os,hgrow.tape,hgrow.output,hgrow.size,hgrow.block⟩ (by rcases hatt with e | e;exact .inl e.symm;exact .inr (by rw [e];show some (w11.heap.size+1)=some (World.alloc _ _).heap.size;rw [World.size_alloc])))
   clear hown1 hgrow hatt hlt3 q1 q2 HAD HA HN t1 s1 howA m0 m1
   generalize w3.setCell _ _=w20 at *
   have y4:=(oz H20).bx.cell 4
   have HC:=kz (zeG lo R g (some ⟨g,0,none⟩) c ws k2 b3 _ _ 1 (by omega) x.b v2 n2 xs2 hn2 (oz HV2 _) (oz HL2 _) w20 (oz H20).at_)
   go_wp2_with fail
   refine (oz HC).mono ?_
   rintro e w21 ⟨⟨rr,rfl⟩,⟨v2',hR21⟩,hf21⟩
   have HF21:=kz ((oz H20).fr.trans hf21)
   have HFIN:=kz (And.intro hR21 (oz HF21))
   clear HC hR21 hf21 y4
   go_wp2_with fail
   rw [oz HV]
   go_end0
   exact ⟨⟨_,rfl⟩,⟨_,_,_,b3,oz HB3,by rw [← (oz HVS).1, ← (oz HVS).2];exact (oz HFIN).1⟩,(oz HFIN).2⟩
theorem zjd {S:ByteArray} (h:zaB S=0):S≠⟨#[115,99,114,105,112,116]⟩∧S≠⟨#[99,111,109,109,111,110]⟩∧S≠⟨#[109,97,114,107]⟩∧S≠⟨#[112,97,105,114]⟩∧S≠⟨#[102,111,108,100]⟩∧S≠⟨#[108,111,111,107]⟩∧S≠⟨#[100,114,111,112]⟩∧S≠⟨#[97,108,108,111,119]⟩:=by
 unfold zaB at h
 refine ⟨?_, ?_, ?_, ?_, ?_, ?_, ?_, ?_⟩
 all_goals
  rintro rfl
  revert h
  decide
theorem zc9 {S:ByteArray} {l:List UInt8} (h:S≠⟨l.toArray⟩):(S.toList == l)=false:=by
 rw [ByteArray.toList_eq]
 cases hb:(S.data.toList == l) with
 | false =>rfl
 | true =>
  have h1:S.data.toList=l:=eq_of_beq hb
  exact absurd (ByteArray.ext (by rw [← h1])) h
set_option maxRecDepth 100000 in
set_option maxHeartbeats 8000000 in
theorem zic (lo R g:Nat) (a:Option Addr) (c:Nat) (ws:List W8) (k:Nat) (eb el ec:Int) (vs:List Value) (ls:List Ln) (x:W8) (hx:ws[k]?=some x) (hxk:x.k≠1) (W:World) (h:RrAt W lo R g a c ws k (-1) vs ls) :
  Calls Tryz.prog 47 #[.pointer (some ⟨R,0,none⟩)] W fun e w' =>(∃ r,e=.returned r)∧RrAt w' lo R g a c ws k k vs ls∧Fr lo R R W w':=by
 have hs:zaJ ws k none 1=false:=by unfold zaJ;rw [hx];show (x.k == 1)=false;simpa using hxk
 have hlw:=h.lw
 have HC:=kz (zb3 lo R g a c ws k (-1) none eb el ec 1 vs ls W h rfl)
 rw [hs] at HC
 have HTK:=kz (fun (w:World) (h5:RrAt w lo R g a c ws k (-1) vs ls) =>zaE lo R g a c ws k (-1) none eb el ec 1 vs ls w h5 rfl)
 rw [show zaa ws k none eb el ec 1=⟨zgt,k,some (zeA ws k eb el ec)⟩ by unfold zaa;rw [hs]] at HTK
 have H:=kz h
 clear h hs hx hxk
 go_enter Tryz.func47,Tryz.ntmps47
 go_wp2_with fail
 refine (oz HC).mono ?_
 rintro e w1 ⟨rfl,hb1⟩
 have H1:=kz ((oz H).below hb1)
 have HFR1:Hz (Fr lo R R W w1):=kz ⟨hb1.os,hb1.tape,hb1.output,hb1.size,fun j hj _ _ =>hb1.block j (by omega)⟩
 have hlw1:lo≤w1.heap.size:=(oz H1).lw
 clear HC hb1
 go_wp2_with fail
 refine (oz HTK w1 (oz H1)).mono ?_
 generalize r6V _=vz
 rintro e w2 ⟨rfl,⟨b2,hB2,hR2⟩,hg2⟩
 obtain ⟨rfl,_⟩:=hB2
 have HF:=kz (And.intro hR2 ((oz HFR1).trans (Fr.grown hlw1 hg2 (fun b e =>.inl (Option.some.inj e).symm))))
 clear hR2 hg2 HTK
 go_wp2_with fail
 exact bodyPost_ret (results_none rfl _ _ _) rfl ⟨⟨_,rfl⟩,(oz HF).1,(oz HF).2⟩
set_option maxRecDepth 100000 in
set_option maxHeartbeats 8000000 in
theorem zht (lo R g:Nat) (a:Option Addr) (c:Nat) (ws:List W8) (k:Nat) (eb el ec:Int) (vs:List Value) (ls:List Ln) (x:W8) (hx:ws[k]?=some x) (hxk:x.k=1) (hS:zaB x.S=0)  (W:World) (h:RrAt W lo R g a c ws k (-1) vs ls) :
  Calls Tryz.prog 47 #[.pointer (some ⟨R,0,none⟩)] W fun e w' =>(∃ r,e=.returned r)∧RrAt w' lo R g a c ws (k+1) k vs ls∧Fr lo R R W w':=by
 have hmx:Tryz.prog.follows .mixedOrders=true:=by kernel_rfl
 have hlt:=(List.getElem?_eq_some_iff.1 hx).1
 have hnm:=h.nmax
 have hcap:=h.cap
 have hRW:=h.blk.lt
 have hRl:=h.lt
 have hlw:=h.lw
 obtain ⟨rfl,hgl,hgR⟩:=h.ptr (by omega)
 have hs:zaJ ws k none 1=true:=by unfold zaJ;rw [hx];show (x.k == 1)=true;rw [hxk];rfl
 have HC:=kz (zb3 lo R g (some ⟨g,0,none⟩) c ws k (-1) none eb el ec 1 vs ls W h rfl)
 rw [hs] at HC
 have H:=kz h
 have HX:=kz hx
 have HSX:=kz hS
 clear h hs hx hxk hS
 go_enter Tryz.func47,Tryz.ntmps47
 go_wp2_with fail
 refine (oz HC).mono ?_
 rintro e w1 ⟨rfl,hb1⟩
 have H1:=kz ((oz H).below hb1)
 have HFR1:Hz (Fr lo R R W w1):=kz ⟨hb1.os,hb1.tape,hb1.output,hb1.size,fun j hj _ _ =>hb1.block j (by omega)⟩
 have hlw1:lo≤w1.heap.size:=(oz H1).lw
 clear HC hb1
 go_wp2_with fail
 have HF:Hz (∀ w,Below w1.heap.size w1.drew w→w.cell? ⟨R,0,none⟩=some (.slice (some ⟨g,0,none⟩) ws.length c)∧w.cell? ⟨R,1,none⟩=some (.int .i64 (k:Int))∧∀ i u,(r6 x)[i]?=some u→w.cell? ⟨g,k*6+i,none⟩=some u):=kz (fun w hb =>by
  have h2:=(oz H1).below ((Below.refl _ _).drew.trans hb)
  exact ⟨h2.cells.1,h2.cells.2.1,fun i u hu =>h2.words k x (oz HX) i u hu⟩)
 refine za3 hmx 11 (by decide) (by kernel_rfl) (by kernel_rfl) (fun l a w => ∃ U:Nat→Value,a = { tmps:=#[.pointer (some ⟨R,0,none⟩),undef,U 10,undef,undef,undef,undef,undef,undef,undef,undef,undef,undef,undef,.pointer (some ⟨R,0,none⟩),.bool true,.bool false,undef,undef,U 0,U 1,U 2,U 3,U 4,U 5,U 6,U 7,U 8,U 9,undef,undef,undef,undef,undef,undef,undef,undef,undef,undef,undef,undef,undef,undef,undef,undef,undef,undef,undef,undef,undef,undef,undef,undef,undef,undef,undef,undef,undef,undef,undef,undef,undef,undef,undef,undef,undef,undef,undef,undef,undef,undef,undef,undef,undef,undef,undef,undef,undef,undef,undef,undef,undef,undef,undef,undef,undef,undef,undef,undef,undef,undef,undef,undef,undef,undef,undef,undef,undef,undef,undef,undef,undef,undef,undef,undef,undef,undef,undef,undef,undef,undef,undef,undef,undef,undef,undef,undef,undef,undef,undef,undef,undef,undef,undef,undef,undef,undef,undef,undef,undef,undef,undef,undef,undef,undef,undef,undef,undef,undef,undef,undef,undef,undef,undef,undef,undef,undef,undef,undef,undef,undef,undef,undef,undef,undef,undef,undef,undef,undef,undef,undef,undef,undef,undef,undef,undef,undef,undef,undef,undef,undef,undef,undef,undef,undef,undef,undef,undef,undef,undef,undef,undef,undef,undef,undef,undef,undef,undef,undef,undef,undef,undef,undef,undef,undef,undef,undef,undef,undef,undef,undef,undef,undef,undef,undef,undef,undef,undef,undef,undef,undef,undef,undef,undef,undef,undef,undef,undef,undef,undef,undef,undef,undef,undef,undef,undef,undef,undef,undef,undef,undef,undef,undef,undef,undef,undef,undef,undef,undef,undef,undef,undef,undef,undef,undef,undef,undef,undef,undef,undef,undef,undef,undef,undef,undef,undef,undef,undef,undef,undef,undef,undef,undef,undef,undef,undef,undef,undef],defers := [] }∧RgJ (w1.drew) (w1.heap.size) (ruD R g ws.length c k w1.heap.size x) ruDM l U w) ⟨fun _ =>undef,rfl,RgJ.start _ _ (Nat.le_refl _)⟩ ?_ ?_
 ·rintro l a w i ⟨U,rfl,hJ⟩ hl hi hif
  have h0:=(mem_ready.1 hi).1
  have hlt:=zhw hl h0
  have HJ:=kz hJ
  clear hJ hl
  replace hlt:i < 12:=hlt
  obtain rfl | rfl | rfl | rfl | rfl | rfl | rfl | rfl | rfl | rfl | rfl:i=0∨i=1∨i=2∨i=3∨i=4∨i=5∨i=6∨i=7∨i=8∨i=9∨i=10:=by omega
  ·refine wpOp_step rfl (fun K hK =>?_)
   clear hlt hif
   go_simp
   exact hK _ _ ⟨zae U 0 _,rfl,(oz HJ).put 0 _ h0 (Below.refl _ _) (zak (Below.refl _ _)) rfl zal (fun h =>absurd h (by decide))⟩
  ·refine wpOp_step rfl (fun K hK =>?_)
   clear hlt hif
   have d0:U 0=.pointer (some ⟨R,0,none⟩):=(oz HJ).val 0 (zar hi 0 (by kernel_rfl))
   go_simp
   exact hK _ _ ⟨zae U 1 _,(by rw [zaq d0];rfl),(oz HJ).put 1 _ h0 (Below.refl _ _) (zak (Below.refl _ _)) rfl zal (fun h =>absurd h (by decide))⟩
  ·refine wpOp_step rfl (fun K hK =>?_)
   clear hlt hif
   have d1:U 1=.pointer (some ⟨R,0,none⟩):=(oz HJ).val 1 (zar hi 1 (by kernel_rfl))
   go_simp
   exact hK _ _ ⟨zae U 2 _,(by rw [zaq d1];rfl),(oz HJ).put 2 _ h0 (Below.refl _ _) (zak (Below.refl _ _)) rfl zal (fun h =>absurd h (by decide))⟩
  ·refine wpOp_step rfl (fun K hK =>?_)
   clear hlt hif
   have d2:U 2=.pointer (some ⟨R,0,none⟩):=(oz HJ).val 2 (zar hi 2 (by kernel_rfl))
   have q:=(oz HF w (oz HJ).bel).1
   go_simp
   exact hK _ _ ⟨zae U 3 _,(by rw [zaq d2];rfl),(oz HJ).put 3 _ h0 (Below.refl _ _) (zak (Below.refl _ _)) rfl zal (fun h =>absurd h (by decide))⟩
  ·refine wpOp_step rfl (fun K hK =>?_)
   clear hlt hif
   go_simp
   exact hK _ _ ⟨zae U 4 _,rfl,(oz HJ).put 4 _ h0 (Below.refl _ _) (zak (Below.refl _ _)) rfl zal (fun h =>absurd h (by decide))⟩
  ·refine wpOp_step rfl (fun K hK =>?_)
   clear hlt hif
   have d4:U 4=.pointer (some ⟨R,0,none⟩):=(oz HJ).val 4 (zar hi 4 (by kernel_rfl))
   go_simp
   exact hK _ _ ⟨zae U 5 _,(by rw [zaq d4];rfl),(oz HJ).put 5 _ h0 (Below.refl _ _) (zak (Below.refl _ _)) rfl zal (fun h =>absurd h (by decide))⟩
  ·refine wpOp_step rfl (fun K hK =>?_)
   clear hlt hif
   have d5:U 5=.pointer (some ⟨R,0,none⟩):=(oz HJ).val 5 (zar hi 5 (by kernel_rfl))
   go_simp
   exact hK _ _ ⟨zae U 6 _,(by rw [zaq d5];rfl),(oz HJ).put 6 _ h0 (Below.refl _ _) (zak (Below.refl _ _)) rfl zal (fun h =>absurd h (by decide))⟩
  ·refine wpOp_step rfl (fun K hK =>?_)
   clear hlt hif
   have d6:U 6=.pointer (some ⟨R,1,none⟩):=(oz HJ).val 6 (zar hi 6 (by kernel_rfl))
   have q:=(oz HF w (oz HJ).bel).2.1
   go_simp
   exact hK _ _ ⟨zae U 7 _,(by rw [zaq d6];rfl),(oz HJ).put 7 _ h0 (Below.refl _ _) (zak (Below.refl _ _)) rfl zal (fun h =>absurd h (by decide))⟩
  ·refine wpOp_step rfl (fun K hK =>?_)
   clear hlt hif
   have d3:U 3=.slice (some ⟨g,0,none⟩) ws.length c:=(oz HJ).val 3 (zar hi 3 (by kernel_rfl))
   have d7:U 7=.int .i64 (k:Int):=(oz HJ).val 7 (zar hi 7 (by kernel_rfl))
   have i0:(0:Int)≤(k:Int):=by omega
   have i1:(k:Int) < (ws.length:Int):=by omega
   go_simp
   exact hK _ _ ⟨zae U 8 _,(by rw [zaq d3,zaq d7];rfl),(oz HJ).put 8 _ h0 (Below.refl _ _) (zak (Below.refl _ _)) rfl zal (fun h =>absurd h (by decide))⟩
  ·refine wpOp_step rfl (fun K hK =>?_)
   clear hlt hif
   have d8:U 8=.pointer (some ⟨g,k*6,none⟩):=(oz HJ).val 8 (zar hi 8 (by kernel_rfl))
   have q0:w.cell? ⟨g,k*6,none⟩=some (.int .i64 x.k):=(oz HF w (oz HJ).bel).2.2 0 _ rfl
   have q1:w.cell? ⟨g,k*6+1,none⟩=some (.string x.S):=(oz HF w (oz HJ).bel).2.2 1 _ rfl
   have q2:w.cell? ⟨g,k*6+2,none⟩=some (.int .i32 x.r):=(oz HF w (oz HJ).bel).2.2 2 _ rfl
   have q3:w.cell? ⟨g,k*6+3,none⟩=some (.int .i64 x.n):=(oz HF w (oz HJ).bel).2.2 3 _ rfl
   have q4:w.cell? ⟨g,k*6+4,none⟩=some (.int .i64 x.b):=(oz HF w (oz HJ).bel).2.2 4 _ rfl
   have q5:w.cell? ⟨g,k*6+5,none⟩=some (.int .i64 x.e):=(oz HF w (oz HJ).bel).2.2 5 _ rfl
   go_simp
   exact hK _ _ ⟨zae U 9 _,(by rw [zaq d8];rfl),(oz HJ).put 9 _ h0 (Below.refl _ _) (zak (Below.refl _ _)) rfl zal (fun h =>absurd h (by decide))⟩
  ·refine wpOp_step rfl (fun K hK =>?_)
   clear hlt hif
   go_simp
   exact hK _ _ ⟨zae U 10 _,rfl,(oz HJ).put 10 _ h0 ((Below.refl _ _).alloc (Nat.le_refl _) _) (zak ((Below.refl _ _).alloc (Nat.le_refl _) _)) ⟨w.heap.size,rfl,(oz HJ).sz,Blk.new w _ _⟩ zal (fun h =>absurd h (by decide))⟩
 ·rintro l a w ⟨U,rfl,hJ⟩ hall
  have hv:U 9=.agg #[.int .i64 x.k,.string x.S,.int .i32 x.r,.int .i64 x.n,.int .i64 x.b,.int .i64 x.e]:=hJ.val 9 (hall 9 (by decide) (by decide))
  obtain ⟨M,hp,hbkn,hbk⟩:=hJ.val 10 (hall 10 (by decide) (by decide))
  have hbj:=hJ.bel
  have hsj:=hJ.sz
  clear hJ hall
  have H2:=kz ((oz H1).below ((Below.refl _ _).drew.trans hbj))
  have hMR:M≠R:=by omega
  have hML:w1.heap.size≤M:=hbkn
  have HW3:Hz (∀ w9,w9=(((((((w.setCell ⟨M,0,none⟩ (.int .i64 x.k)).setCell ⟨M,1,none⟩ (.string x.S)).setCell ⟨M,2,none⟩ (.int .i32 x.r)).setCell ⟨M,3,none⟩ (.int .i64 x.n)).setCell ⟨M,4,none⟩ (.int .i64 x.b)).setCell ⟨M,5,none⟩ (.int .i64 x.e))).setCell ⟨R,1,none⟩ (.int .i64 ((k:Int)+1))→RrW W w9 lo R g (some ⟨g,0,none⟩) c ws (k+1) (-1) vs ls M x):=kz (fun w9 e =>by
   subst e
   have hb2:Below w1.heap.size w1 w:=(Below.refl _ _).drew.trans hbj
   have g1:w1.grownBy w (some R):=⟨hb2.os,hb2.tape,hb2.output,hb2.size,fun i hi _ =>hb2.block i hi⟩
   have g2:=zby g1 M hML (.int .i64 x.k) (.string x.S) (.int .i32 x.r) (.int .i64 x.n) (.int .i64 x.b) (.int .i64 x.e)
   have s2:RrS w1 _ lo R g (some ⟨g,0,none⟩) c ws k (-1) vs ls:=⟨(oz H1).upd g2 (oz H1).kn (zbg ((oz H2).blk) (Ne.symm hMR) (.int .i64 x.k) (.string x.S) (.int .i32 x.r) (.int .i64 x.n) (.int .i64 x.b) (.int .i64 x.e)),g2⟩
   have s3:=s2.next (by omega)
   have b3:=(box6 hbk (.int .i64 x.k) (.string x.S) (.int .i32 x.r) (.int .i64 x.n) (.int .i64 x.b) (.int .i64 x.e)).kept (zad _ R 1 (.int .i64 ((k:Int)+1))) (fun e =>hMR (Option.some.inj e))
   exact ⟨s3.at_,(oz HFR1).trans (Fr.grown (oz H1).lw s3.gr (fun b e =>.inl (Option.some.inj e).symm)),b3,by omega⟩)
  have e0:=hbk.cell 0
  have e1:=hbk.cell 1
  have e2:=hbk.cell 2
  have e3:=hbk.cell 3
  have e4:=hbk.cell 4
  have e5:=hbk.cell 5
  have f0:=hbk.frozen 0
  have f1:=hbk.frozen 1
  have f2:=hbk.frozen 2
  have f3:=hbk.frozen 3
  have f4:=hbk.frozen 4
  have f5:=hbk.frozen 5
  have HR5:Hz (Blk (((((((w.setCell ⟨M,0,none⟩ (.int .i64 x.k)).setCell ⟨M,1,none⟩ (.string x.S)).setCell ⟨M,2,none⟩ (.int .i32 x.r)).setCell ⟨M,3,none⟩ (.int .i64 x.n)).setCell ⟨M,4,none⟩ (.int .i64 x.b)).setCell ⟨M,5,none⟩ (.int .i64 x.e))) R (zbm (some ⟨g,0,none⟩) ws.length c k (-1) vs) 121):=kz (zbg ((oz H2).blk) (Ne.symm hMR) (.int .i64 x.k) (.string x.S) (.int .i32 x.r) (.int .i64 x.n) (.int .i64 x.b) (.int .i64 x.e))
  have hRM:R≠M:=Ne.symm hMR
  have hk1:k≤1000000:=by omega
  have HBK:=kz hbk
  clear hbj hsj hbk H2 H1 HFR1 HF
  refine wpOp_step rfl (fun K hK =>?_)
  go_simp
  refine hK _ _ ?_
  clear hK K e0 e1 e2 e3 e4 e5 f0 f1 f2 f3 f4 f5
  generalize ((((((w.setCell _ _).setCell _ _).setCell _ _).setCell _ _).setCell _ _).setCell _ _)=w5 at *
  have r1:w5.cell? ⟨R,1,none⟩=some (.int .i64 (k:Int)):=(oz HR5).cell 1
  have rf:=(oz HR5).frozen 1
  have y1:(w5.setCell ⟨R,1,none⟩ (.int .i64 ((k:Int)+1))).cell? ⟨M,1,none⟩=some (.string x.S):=(oz HW3 _ rfl).bx.cell 1
  obtain ⟨c0,c1,c2,c3,c4,c5,c6,c7⟩:=zjd (oz HSX)
  have z1:(w5.setCell ⟨R,1,none⟩ (.int .i64 ((k:Int)+1))).cell? ⟨R,2,none⟩=some (.int .i64 (-1)):=(oz HW3 _ rfl).at_.cells.2.2
  have z3:(w5.setCell ⟨R,1,none⟩ (.int .i64 ((k:Int)+1))).cell? ⟨R,1,none⟩=some (.int .i64 ((k:Int)+1)):=(oz HW3 _ rfl).at_.cells.2.1
  have z2:(w5.setCell ⟨R,1,none⟩ (.int .i64 ((k:Int)+1))).frozen? ⟨R,2,none⟩=false:=(oz HW3 _ rfl).at_.blk.frozen 2
  have HFIN:Hz (RrAt ((w5.setCell ⟨R,1,none⟩ (.int .i64 ((k:Int)+1))).setCell ⟨R,2,none⟩ (.int .i64 (k:Int))) lo R g (some ⟨g,0,none⟩) c ws (k+1) k vs ls∧Fr lo R R W ((w5.setCell ⟨R,1,none⟩ (.int .i64 ((k:Int)+1))).setCell ⟨R,2,none⟩ (.int .i64 (k:Int)))):=kz (by
   have h9:=oz HW3 _ rfl
   have q:=zad (w5.setCell ⟨R,1,none⟩ (.int .i64 ((k:Int)+1))) R 2 (.int .i64 (k:Int))
   have b9:=h9.at_.blk.set 2 (.int .i64 (k:Int))
   rw [zig] at b9
   exact ⟨h9.at_.upd q h9.at_.kn b9,h9.fr.trans (Fr.grown h9.at_.lw q (fun b e =>.inl (Option.some.inj e).symm))⟩)
  clear HW3
  generalize x.S=XS at *
  have d0:=zc9 (l := [115,99,114,105,112,116]) c0
  have d1:=zc9 (l := [99,111,109,109,111,110]) c1
  have d2:=zc9 (l := [109,97,114,107]) c2
  have d3:=zc9 (l := [112,97,105,114]) c3
  have d4:=zc9 (l := [102,111,108,100]) c4
  have d5:=zc9 (l := [108,111,111,107]) c5
  have d6:=zc9 (l := [100,114,111,112]) c6
  have d7:=zc9 (l := [97,108,108,111,119]) c7
  clear c0 c1 c2 c3 c4 c5 c6 c7
  clear HBK hv hp hRM hMR
  go_wp2_with fail
  go_end0
  exact ⟨⟨_,rfl⟩,(oz HFIN).1,(oz HFIN).2⟩
end Go.Proofs.YtmdgejgokoadlaaGreatDoor
