/- Texts of this claim, one behind the other. -/
import Derived.Test.YtmdgejgokoadlaaGreatDoorM4
/- The reader of rules: refuse, take. -/
namespace Go.Proofs.YtmdgejgokoadlaaGreatDoor
open Go.RowKit Go.Shelf
set_option linter.unusedVariables false
structure EndAt (W:World) (Tx:Nat) (eb el ec:Int):Prop where
 c0:W.cell? ⟨Tx,17,none⟩=some (.int .i64 eb)
 c1:W.cell? ⟨Tx,18,none⟩=some (.int .i64 el)
 c2:W.cell? ⟨Tx,19,none⟩=some (.int .i64 ec)
def zeA (ws:List W8) (k:Nat) (eb el ec:Int):Rf:=match ws[k]? with
 | some x =>⟨x.b,x.l,x.c,5⟩
 | none =>⟨eb,el,ec,21⟩
theorem zai {a b c:World} {row:Option Nat} (h:a.grownBy b row) (k:b.grownBy c row):a.grownBy c row :=
 ⟨k.os.trans h.os,k.tape.trans h.tape,k.output.trans h.output,Nat.le_trans h.size k.size,fun i hi hn =>(k.block i (by have:=h.size;omega) hn).trans (h.block i hi hn)⟩
theorem zad (W:World) (B i:Nat) (v:Value):W.grownBy (W.setCell ⟨B,i,none⟩ v) (some B):=⟨rfl,rfl,rfl,(KeepsWalks.setCell W _ _).size,fun k hk hn =>Below.heap_setCell W ⟨B,i,none⟩ _ k (fun e =>hn (by rw [e]))⟩
theorem RefAt.kept {W W':World} {R:Nat} {v:Value} {bad:Option Rf} {row:Option Nat} (h:RefAt W R v bad) (hg:W.grownBy W' row) (hne:∀ F x,Blk W F (zb4 x) 80→some F≠row):RefAt W' R v bad:=by
 cases bad with
 | none =>exact h
 | some x =>
  obtain ⟨F,e,hRF,hF⟩:=h
  exact ⟨F,e,hRF,hF.kept hg (hne F x hF)⟩
theorem RdAt.upd {W W':World} {R Tx g:Nat} {ws:List W8} {k k2:Nat} {bad bad2:Option Rf} (h:RdAt W R Tx g ws k bad) (hg:W.grownBy W' (some R)) (hk:k2≤ws.length) (a:Option Addr) (c:Nat) (v:Value)
  (hb:Blk W' R #[.slice a (ws.length - k2) c,.pointer (some ⟨Tx,0,none⟩),v] 87) (ha:k2 < ws.length→a=some ⟨g,8*k2,none⟩) (hc:ws.length - k2≤c) (hv:RefAt W' R v bad2):RdAt W' R Tx g ws k2 bad2 :=
 ⟨hk,h.nmax,⟨a,c,v,hb,ha,hc,hv⟩,fun j x hx i u hu =>hg.cell (h.words j x hx i u hu) (by show some g≠some R;intro e;exact h.gR (Option.some.inj e)),h.gR⟩
set_option maxRecDepth 100000 in
set_option maxHeartbeats 4000000 in
theorem zgP (R Tx g:Nat) (ws:List W8) (k:Nat) (bad:Option Rf) (eb el ec:Int) (W:World) (h:RdAt W R Tx g ws k bad) (hE:EndAt W Tx eb el ec) :
  Calls Tryz.prog 63 #[.pointer (some ⟨R,0,none⟩)] W fun e w' =>(∃ r,e=.returned r)∧RdAt w' R Tx g ws k (some (zeA ws k eb el ec))∧W.grownBy w' (some R):=by
 have H:=kz h
 obtain ⟨a,c,v,hb,ha,hc,hv⟩:=h.blk
 have hkn:=h.kn
 have hnm:=h.nmax
 have c0:=hb.cell 0
 have c1:=hb.cell 1
 have c2:=hb.cell 2
 have f2:=hb.frozen 2
 have e0:=hE.c0
 have e1:=hE.c1
 have e2:=hE.c2
 have hRl:=hb.lt
 clear h hE
 go_enter Tryz.func63,Tryz.ntmps63
 cases hx:ws[k]? with
 | none =>
  have hk:ws.length - k=0:=by have:=List.getElem?_eq_none_iff.1 hx;omega
  have HE:=kz (show zeA ws k eb el ec=⟨eb,el,ec,21⟩ by simp only [zeA,hx])
  have HK:=kz hk
  rw [hk] at c0
  have HB:=kz hb
  have HA:=kz ha
  have HC:=kz hc
  clear hb ha hc hv hk hx
  go_wp2_with fail
  go_end0
  have hz:(W.setCell ⟨R,2,none⟩ (.pointer (some ⟨W.heap.size,0,none⟩))).heap.size=W.heap.size:=by simp
  have hg:W.grownBy ((W.setCell ⟨R,2,none⟩ (.pointer (some ⟨W.heap.size,0,none⟩))).alloc (.cells (zb4 ⟨eb,el,ec,21⟩) 80)) (some R):=zai (zad W R 2 _) (World.grownBy_alloc _ _ _)
  have hF:=Blk.new (W.setCell ⟨R,2,none⟩ (.pointer (some ⟨W.heap.size,0,none⟩))) (zb4 ⟨eb,el,ec,21⟩) 80
  rw [hz] at hF
  refine ⟨⟨_,rfl⟩, ?_,hg⟩
  rw [oz HE]
  exact (oz H).upd hg hkn a c (.pointer (some ⟨W.heap.size,0,none⟩)) (((oz HB).set 2 _).alloc _) (oz HA) (oz HC) ⟨W.heap.size,rfl,hRl,hF⟩
 | some x =>
  have hk:=(List.getElem?_eq_some_iff.1 hx).1
  obtain rfl:=ha hk
  have hw:=(oz H).words
  have hgR:=(oz H).gR
  have hg1:W.grownBy ((W.setCell ⟨R,2,none⟩ (.pointer (some ⟨W.heap.size,0,none⟩))).alloc (.cells #[.int .i64 eb,.int .i64 el,.int .i64 ec,.int .i64 21] 80)) (some R):=zai (zad W R 2 _) (World.grownBy_alloc _ _ _)
  have w4:=hg1.cell (a:=⟨g,8*k+4,none⟩) (hw k x hx 4 _ rfl) (by show some g≠some R;intro e;exact hgR (Option.some.inj e))
  have w5:=hg1.cell (a:=⟨g,8*k+4+1,none⟩) (hw k x hx 5 _ rfl) (by show some g≠some R;intro e;exact hgR (Option.some.inj e))
  have w6:=hg1.cell (a:=⟨g,8*k+4+2,none⟩) (hw k x hx 6 _ rfl) (by show some g≠some R;intro e;exact hgR (Option.some.inj e))
  have HG1:=kz hg1
  clear hg1
  have HE:=kz (show zeA ws k eb el ec=⟨x.b,x.l,x.c,5⟩ by simp only [zeA,hx])
  have hpos:(0:Int) < ((ws.length - k:Nat):Int):=by omega
  have hpos2:0 < ws.length - k:=by omega
  obtain ⟨m,hm⟩:∃ m,m=ws.length - k:=⟨_,rfl⟩
  rw [← hm] at c0 hpos hpos2
  have HB:=kz hb
  have HA:=kz ha
  have HC:=kz hc
  clear hb ha hc hv hx hw hm hk
  go_wp2_with fail
  go_end0
  have hz:(((W.setCell ⟨R,2,none⟩ (.pointer (some ⟨W.heap.size,0,none⟩))).setCell ⟨R,2,none⟩ (.pointer (some ⟨W.heap.size+1,0,none⟩))).alloc (.cells (zb4 ⟨eb,el,ec,21⟩) 80)).heap.size=W.heap.size+1:=by simp
  have hg:W.grownBy ((((W.setCell ⟨R,2,none⟩ (.pointer (some ⟨W.heap.size,0,none⟩))).setCell ⟨R,2,none⟩ (.pointer (some ⟨W.heap.size+1,0,none⟩))).alloc (.cells (zb4 ⟨eb,el,ec,21⟩) 80)).alloc (.cells (zb4 ⟨x.b,x.l,x.c,5⟩) 80)) (some R) :=
   zai (zai (zai (zad W R 2 _) (zad _ R 2 _)) (World.grownBy_alloc _ _ _)) (World.grownBy_alloc _ _ _)
  have hF:=Blk.new (((W.setCell ⟨R,2,none⟩ (.pointer (some ⟨W.heap.size,0,none⟩))).setCell ⟨R,2,none⟩ (.pointer (some ⟨W.heap.size+1,0,none⟩))).alloc (.cells (zb4 ⟨eb,el,ec,21⟩) 80)) (zb4 ⟨x.b,x.l,x.c,5⟩) 80
  rw [hz] at hF
  refine ⟨⟨_,rfl⟩, ?_,hg⟩
  rw [oz HE]
  exact (oz H).upd hg hkn _ c (.pointer (some ⟨W.heap.size+1,0,none⟩)) (((((oz HB).set 2 _).set 2 _).alloc _).alloc _) (fun _ =>rfl) (oz HC) ⟨W.heap.size+1,rfl,Nat.lt_succ_of_lt hRl,hF⟩
theorem RdAt.alloc {W:World} {R Tx g:Nat} {ws:List W8} {k:Nat} {bad:Option Rf} (h:RdAt W R Tx g ws k bad) (o:Obj):RdAt (W.alloc o) R Tx g ws k bad:=by
 obtain ⟨a,c,v,hb,ha,hc,hv⟩:=h.blk
 exact h.upd (World.grownBy_alloc W o _) h.kn a c v (hb.alloc o) ha hc (hv.kept (World.grownBy_alloc W o none) (fun F x _ =>by simp))
theorem EndAt.kept {W W':World} {Tx:Nat} {eb el ec:Int} {row:Option Nat} (h:EndAt W Tx eb el ec) (hg:W.grownBy W' row) (hne:some Tx≠row):EndAt W' Tx eb el ec:=⟨hg.cell h.c0 hne,hg.cell h.c1 hne,hg.cell h.c2 hne⟩
def wV (x:W8):Value := .agg #[.int .i64 x.k,.string x.S,.int .i32 x.r,.int .i64 x.n,.int .i64 x.b,.int .i64 x.l,.int .i64 x.c,.int .i64 x.e]
theorem box8 {W:World} {N:Nat} {a0 a1 a2 a3 a4 a5 a6 a7:Value} {ty:TypeId} (h:Blk W N #[a0,a1,a2,a3,a4,a5,a6,a7] ty) (v0 v1 v2 v3 v4 v5 v6 v7:Value):Blk ((((((((W.setCell ⟨N,0,none⟩ v0).setCell ⟨N,1,none⟩ v1).setCell ⟨N,2,none⟩ v2).setCell ⟨N,3,none⟩ v3).setCell ⟨N,4,none⟩ v4).setCell ⟨N,5,none⟩ v5).setCell ⟨N,6,none⟩ v6).setCell ⟨N,7,none⟩ v7) N #[v0,v1,v2,v3,v4,v5,v6,v7] ty:=by
 have h0:Blk (_:World) N #[v0,a1,a2,a3,a4,a5,a6,a7] ty:=h.set 0 v0
 have h1:Blk (_:World) N #[v0,v1,a2,a3,a4,a5,a6,a7] ty:=h0.set 1 v1
 have h2:Blk (_:World) N #[v0,v1,v2,a3,a4,a5,a6,a7] ty:=h1.set 2 v2
 have h3:Blk (_:World) N #[v0,v1,v2,v3,a4,a5,a6,a7] ty:=h2.set 3 v3
 have h4:Blk (_:World) N #[v0,v1,v2,v3,v4,a5,a6,a7] ty:=h3.set 4 v4
 have h5:Blk (_:World) N #[v0,v1,v2,v3,v4,v5,a6,a7] ty:=h4.set 5 v5
 have h6:Blk (_:World) N #[v0,v1,v2,v3,v4,v5,v6,a7] ty:=h5.set 6 v6
 have h7:Blk (_:World) N #[v0,v1,v2,v3,v4,v5,v6,v7] ty:=h6.set 7 v7
 exact h7
theorem zgg (W:World) (N:Nat) (v0 v1 v2 v3 v4 v5 v6 v7:Value):W.grownBy ((((((((W.setCell ⟨N,0,none⟩ v0).setCell ⟨N,1,none⟩ v1).setCell ⟨N,2,none⟩ v2).setCell ⟨N,3,none⟩ v3).setCell ⟨N,4,none⟩ v4).setCell ⟨N,5,none⟩ v5).setCell ⟨N,6,none⟩ v6).setCell ⟨N,7,none⟩ v7) (some N) :=
 zai (zai (zai (zai (zai (zai (zai (zad W N 0 v0) (zad _ N 1 v1)) (zad _ N 2 v2)) (zad _ N 3 v3)) (zad _ N 4 v4)) (zad _ N 5 v5)) (zad _ N 6 v6)) (zad _ N 7 v7)
theorem RdAt.far {W W':World} {R Tx g N:Nat} {ws:List W8} {k:Nat} {bad:Option Rf} (h:RdAt W R Tx g ws k bad) (hg:W.grownBy W' (some N)) (hR:R≠N) (hgN:∀ (j:Nat) (x:W8),ws[j]?=some x→g≠N) (hF:∀ F x,Blk W F (zb4 x) 80→F≠N):RdAt W' R Tx g ws k bad:=by
 obtain ⟨a,c,v,hb,ha,hc,hv⟩:=h.blk
 refine ⟨h.kn,h.nmax,⟨a,c,v,hb.kept hg (fun e =>hR (Option.some.inj e)),ha,hc,hv.kept hg (fun F x hx e =>hF F x hx (Option.some.inj e))⟩,fun j x hx i u hu =>hg.cell (h.words j x hx i u hu) (fun e =>hgN j x hx (Option.some.inj e)),h.gR⟩
theorem RdAt.glt {W:World} {R Tx g:Nat} {ws:List W8} {k:Nat} {bad:Option Rf} (h:RdAt W R Tx g ws k bad)   : ∀ (j:Nat) (x:W8),ws[j]?=some x→g < W.heap.size:=fun j x hx =>zdF (h.words j x hx 0 _ rfl)
theorem zb9 {W:World} {B:Nat} {cs cs':Array Value} {t t':TypeId} (h:Blk W B cs t) (h':Blk W B cs' t'):t=t':=by
 have:=h.symm.trans h'
 injection this with e
 injection e
def zgt:W8:=⟨0,⟨#[]⟩,0,0,0,0,0,0⟩
structure Tk where
 x:W8
 k:Nat
 bad:Option Rf
def zaa (ws:List W8) (k:Nat) (bad:Option Rf) (eb el ec kind:Int):Tk:=match zaJ ws k bad kind,ws[k]? with
 | true,some x =>⟨x,k+1,bad⟩
 | _,_ =>⟨zgt,k,some (zeA ws k eb el ec)⟩
set_option maxRecDepth 100000 in
set_option maxHeartbeats 4000000 in
theorem take_any (R Tx g:Nat) (ws:List W8) (k:Nat) (bad:Option Rf) (eb el ec kind:Int) (W:World) (h:RdAt W R Tx g ws k bad) (hE:EndAt W Tx eb el ec) :
  Calls Tryz.prog 64 #[.pointer (some ⟨R,0,none⟩),.int .i64 kind] W fun e w' =>e=.returned (wV (zaa ws k bad eb el ec kind).x)∧RdAt w' R Tx g ws (zaa ws k bad eb el ec kind).k (zaa ws k bad eb el ec kind).bad∧W.grownBy w' (some R):=by
 obtain ⟨Z,hZ⟩:∃ Z,Z=Obj.cells #[.int .i64 0,.string ⟨#[]⟩,.int .i32 0,.int .i64 0,.int .i64 0,.int .i64 0,.int .i64 0,.int .i64 0] 147:=⟨_,rfl⟩
 have h2:=h.alloc Z
 have hE2:=hE.kept (World.grownBy_alloc W Z none) (by simp)
 have hgZ:=World.grownBy_alloc W Z (some R)
 have hbz:Blk (W.alloc Z) W.heap.size #[.int .i64 0,.string ⟨#[]⟩,.int .i32 0,.int .i64 0,.int .i64 0,.int .i64 0,.int .i64 0,.int .i64 0] 147:=by rw [hZ];exact Blk.new W _ _
 have hszW:W.heap.size < (W.alloc Z).heap.size:=by simp
 have hRW:R < W.heap.size:=by obtain ⟨a,c,v,hb,_⟩:=h.blk;exact hb.lt
 have H:=kz h2
 have HGZ:=kz hgZ
 have HS:=kz (zfI R Tx g ws k bad kind _ h2)
 have HF:=kz (zgP R Tx g ws k bad eb el ec _ h2 hE2)
 subst hZ
 go_enter Tryz.func64,Tryz.ntmps64
 cases hs:zaJ ws k bad kind with
 | false =>
  rw [hs] at HS
  have HT:=kz (show zaa ws k bad eb el ec kind=⟨zgt,k,some (zeA ws k eb el ec)⟩ by unfold zaa;rw [hs])
  clear hE hs h2 hE2 hgZ
  go_wp2_with fail
  generalize W.alloc (.cells #[.int .i64 0,.string ⟨#[]⟩,.int .i32 0,.int .i64 0,.int .i64 0,.int .i64 0,.int .i64 0,.int .i64 0] 147)=WZ at *
  refine (oz HS).mono ?_
  rintro e w1 ⟨rfl,hw1⟩
  subst hw1
  go_wp2_with fail
  refine (oz HF).mono ?_
  rintro e w2 ⟨⟨r,rfl⟩,hR,hg⟩
  have hb2:=hbz.kept hg (by simp;omega)
  have HR:=kz hR
  have HG:=kz (zai (oz HGZ) hg)
  have HB2:=kz hb2
  have hW2:W.heap.size < w2.heap.size:=hb2.lt
  have k0:=hb2.cell 0
  have f0:=hb2.frozen 0
  have k1:=hb2.cell 1
  have f1:=hb2.frozen 1
  have k2:=hb2.cell 2
  have f2:=hb2.frozen 2
  have k3:=hb2.cell 3
  have f3:=hb2.frozen 3
  have k4:=hb2.cell 4
  have f4:=hb2.frozen 4
  have k5:=hb2.cell 5
  have f5:=hb2.frozen 5
  have k6:=hb2.cell 6
  have f6:=hb2.frozen 6
  have k7:=hb2.cell 7
  have f7:=hb2.frozen 7
  obtain ⟨N,hN⟩:∃ N,N=W.heap.size:=⟨_,rfl⟩
  rw [← hN] at HB2 k0 k1 k2 k3 k4 k5 k6 k7 f0 f1 f2 f3 f4 f5 f6 f7 ⊢
  have hb8:=box8 (oz HB2) (.int .i64 0) (.string ⟨#[]⟩) (.int .i32 0) (.int .i64 0) (.int .i64 0) (.int .i64 0) (.int .i64 0) (.int .i64 0)
  have r0:=hb8.cell 0
  have r1:=hb8.cell 1
  have r2:=hb8.cell 2
  have r3:=hb8.cell 3
  have r4:=hb8.cell 4
  have r5:=hb8.cell 5
  have r6:=hb8.cell 6
  have r7:=hb8.cell 7
  have hglt:=h.glt
  have HFAR:Hz (RdAt ((((((((w2.setCell ⟨N,0,none⟩ (.int .i64 0)).setCell ⟨N,1,none⟩ (.string ⟨#[]⟩)).setCell ⟨N,2,none⟩ (.int .i32 0)).setCell ⟨N,3,none⟩ (.int .i64 0)).setCell ⟨N,4,none⟩ (.int .i64 0)).setCell ⟨N,5,none⟩ (.int .i64 0)).setCell ⟨N,6,none⟩ (.int .i64 0)).setCell ⟨N,7,none⟩ (.int .i64 0)) R Tx g ws k (some (zeA ws k eb el ec))):=kz (hR.far (zgg w2 N _ _ _ _ _ _ _ _) (by omega) (fun j x hx =>by have:=hglt j x hx;omega) (fun F x hx e =>by subst e;have:=zb9 hx (oz HB2);revert this;decide))
  have HGG:Hz (W.grownBy ((((((((w2.setCell ⟨N,0,none⟩ (.int .i64 0)).setCell ⟨N,1,none⟩ (.string ⟨#[]⟩)).setCell ⟨N,2,none⟩ (.int .i32 0)).setCell ⟨N,3,none⟩ (.int .i64 0)).setCell ⟨N,4,none⟩ (.int .i64 0)).setCell ⟨N,5,none⟩ (.int .i64 0)).setCell ⟨N,6,none⟩ (.int .i64 0)).setCell ⟨N,7,none⟩ (.int .i64 0)) (some R)):=kz (by
   have q:=zgg w2 N (.int .i64 0) (.string ⟨#[]⟩) (.int .i32 0) (.int .i64 0) (.int .i64 0) (.int .i64 0) (.int .i64 0) (.int .i64 0)
   exact ⟨q.os.trans (oz HG).os,q.tape.trans (oz HG).tape,q.output.trans (oz HG).output,Nat.le_trans (oz HG).size q.size,fun i hi hn =>(q.block i (by have:=(oz HG).size;omega) (fun e =>by injection e;omega)).trans ((oz HG).block i hi hn)⟩)
  clear hR hg HF HS H hbz hb2 hb8 hN hglt h
  go_wp2_with fail
  rw [oz HT]
  exact bodyPost_ret (v:=wV zgt) (by simp [results,Tryz.results64,go_sem,r0,r1,r2,r3,r4,r5,r6,r7,wV,zgt]) rfl ⟨rfl,oz HFAR,oz HGG⟩
 | true =>
  rw [hs] at HS
  obtain ⟨x,hx,hbn⟩:∃ x,ws[k]?=some x∧bad=none:=by
   cases bad with
   | some y =>simp [zaJ] at hs
   | none =>
    cases hx:ws[k]? with
    | none =>simp [zaJ,hx] at hs
    | some x =>exact ⟨x,rfl,rfl⟩
  subst hbn
  have HT:=kz (show zaa ws k none eb el ec kind=⟨x,k+1,none⟩ by unfold zaa;rw [hs,hx])
  have hk:=(List.getElem?_eq_some_iff.1 hx).1
  obtain ⟨a,c,v,hb,ha,hc,hv⟩:=h2.blk
  obtain rfl:=ha hk
  have hw:=h2.words
  have w0:=hw.first hx
  have w1:=hw k x hx 1 _ rfl
  have w2:=hw k x hx 2 _ rfl
  have w3:=hw k x hx 3 _ rfl
  have w4:=hw k x hx 4 _ rfl
  have w5:=hw k x hx 5 _ rfl
  have w6:=hw k x hx 6 _ rfl
  have w7:=hw k x hx 7 _ rfl
  have c0:=hb.cell 0
  have f0:=hb.frozen 0
  obtain ⟨m,hm⟩:∃ m,m=ws.length - (k+1):=⟨_,rfl⟩
  have hm1:ws.length - k=m+1:=by omega
  rw [hm1] at c0 hc
  have HB:=kz hb
  have HM:=kz (And.intro hm hm1)
  have hcm:m+1≤c:=hc
  have HK:=kz hk
  have HX:=kz hx
  have HV:=kz hv
  clear hE hs hE2 hgZ hw hx hm hm1 hb ha hc hv hk HF
  go_wp2_with fail
  generalize W.alloc (.cells #[.int .i64 0,.string ⟨#[]⟩,.int .i32 0,.int .i64 0,.int .i64 0,.int .i64 0,.int .i64 0,.int .i64 0] 147)=WZ at *
  refine (oz HS).mono ?_
  rintro e w1 ⟨rfl,hw1⟩
  rw [hw1]
  clear hw1
  have hbW:=oz HB
  rw [(oz HM).2] at hbW
  have d0:=(hbW.alloc (.cells #[.int .i64 x.k,.string x.S,.int .i32 x.r,.int .i64 x.n,.int .i64 x.b,.int .i64 x.l,.int .i64 x.c,.int .i64 x.e] 147)).cell 0
  have g0:=(hbW.alloc (.cells #[.int .i64 x.k,.string x.S,.int .i32 x.r,.int .i64 x.n,.int .i64 x.b,.int .i64 x.l,.int .i64 x.c,.int .i64 x.e] 147)).frozen 0
  obtain ⟨N,hN⟩:∃ N,N=W.heap.size:=⟨_,rfl⟩
  rw [← hN] at hbz
  rw [← hN]
  have HBZ:=kz hbz
  have hRN:R < N:=by omega
  have hglt:∀ (j:Nat) (y:W8),ws[j]?=some y→g < N:=fun j y hy =>by have:=h.glt j y hy;omega
  have hNZ:N < WZ.heap.size:=hbz.lt
  have HN:=kz hN
  clear hbz h h2 hRW hN HS
  by_cases hc1:c=1
  ·obtain rfl:m=0:=by omega
   subst hc1
   have hg3:WZ.grownBy ((WZ.alloc (.cells #[.int .i64 x.k,.string x.S,.int .i32 x.r,.int .i64 x.n,.int .i64 x.b,.int .i64 x.l,.int .i64 x.c,.int .i64 x.e] 147)).setCell ⟨R,0,none⟩ (.slice (some ⟨g,8*k,none⟩) 0 0)) (some R):=zai (World.grownBy_alloc _ _ _) (zad _ R 0 _)
   have hbN:Blk ((WZ.alloc (.cells #[.int .i64 x.k,.string x.S,.int .i32 x.r,.int .i64 x.n,.int .i64 x.b,.int .i64 x.l,.int .i64 x.c,.int .i64 x.e] 147)).setCell ⟨R,0,none⟩ (.slice (some ⟨g,8*k,none⟩) 0 0)) N #[.int .i64 0,.string ⟨#[]⟩,.int .i32 0,.int .i64 0,.int .i64 0,.int .i64 0,.int .i64 0,.int .i64 0] 147:=(oz HBZ).kept hg3 (fun e =>by have:=Option.some.inj e;omega)
   have hbR:Blk ((WZ.alloc (.cells #[.int .i64 x.k,.string x.S,.int .i32 x.r,.int .i64 x.n,.int .i64 x.b,.int .i64 x.l,.int .i64 x.c,.int .i64 x.e] 147)).setCell ⟨R,0,none⟩ (.slice (some ⟨g,8*k,none⟩) 0 0)) R #[.slice (some ⟨g,8*k,none⟩) 0 0,.pointer (some ⟨Tx,0,none⟩),v] 87:=(hbW.alloc _).set 0 _
   have k0:=hbN.cell 0
   have q0:=hbN.frozen 0
   have k1:=hbN.cell 1
   have q1:=hbN.frozen 1
   have k2:=hbN.cell 2
   have q2:=hbN.frozen 2
   have k3:=hbN.cell 3
   have q3:=hbN.frozen 3
   have k4:=hbN.cell 4
   have q4:=hbN.frozen 4
   have k5:=hbN.cell 5
   have q5:=hbN.frozen 5
   have k6:=hbN.cell 6
   have q6:=hbN.frozen 6
   have k7:=hbN.cell 7
   have q7:=hbN.frozen 7
   have hb8:=box8 hbN (.int .i64 x.k) (.string x.S) (.int .i32 x.r) (.int .i64 x.n) (.int .i64 x.b) (.int .i64 x.l) (.int .i64 x.c) (.int .i64 x.e)
   have r0:=hb8.cell 0
   have r1:=hb8.cell 1
   have r2:=hb8.cell 2
   have r3:=hb8.cell 3
   have r4:=hb8.cell 4
   have r5:=hb8.cell 5
   have r6:=hb8.cell 6
   have r7:=hb8.cell 7
   have hR3:RdAt ((WZ.alloc (.cells #[.int .i64 x.k,.string x.S,.int .i32 x.r,.int .i64 x.n,.int .i64 x.b,.int .i64 x.l,.int .i64 x.c,.int .i64 x.e] 147)).setCell ⟨R,0,none⟩ (.slice (some ⟨g,8*k,none⟩) 0 0)) R Tx g ws (k+1) none:=(oz H).upd hg3 (oz HK) (some ⟨g,8*k,none⟩) 0 v (by rw [← (oz HM).1];exact hbR) (fun h9 =>by have:=(oz HM).1;omega) (by rw [← (oz HM).1];omega) (oz HV)
   have HFAR:Hz (RdAt ((((((((((WZ.alloc (.cells #[.int .i64 x.k,.string x.S,.int .i32 x.r,.int .i64 x.n,.int .i64 x.b,.int .i64 x.l,.int .i64 x.c,.int .i64 x.e] 147)).setCell ⟨R,0,none⟩ (.slice (some ⟨g,8*k,none⟩) 0 0)).setCell ⟨N,0,none⟩ (.int .i64 x.k)).setCell ⟨N,1,none⟩ (.string x.S)).setCell ⟨N,2,none⟩ (.int .i32 x.r)).setCell ⟨N,3,none⟩ (.int .i64 x.n)).setCell ⟨N,4,none⟩ (.int .i64 x.b)).setCell ⟨N,5,none⟩ (.int .i64 x.l)).setCell ⟨N,6,none⟩ (.int .i64 x.c)).setCell ⟨N,7,none⟩ (.int .i64 x.e)) R Tx g ws (k+1) none):=kz (hR3.far (zgg _ N _ _ _ _ _ _ _ _) (by omega) (fun j y hy =>by have:=hglt j y hy;omega) (fun F y hy e =>by subst e;have:=zb9 hy hbN;revert this;decide))
   have HGG:Hz (W.grownBy ((((((((((WZ.alloc (.cells #[.int .i64 x.k,.string x.S,.int .i32 x.r,.int .i64 x.n,.int .i64 x.b,.int .i64 x.l,.int .i64 x.c,.int .i64 x.e] 147)).setCell ⟨R,0,none⟩ (.slice (some ⟨g,8*k,none⟩) 0 0)).setCell ⟨N,0,none⟩ (.int .i64 x.k)).setCell ⟨N,1,none⟩ (.string x.S)).setCell ⟨N,2,none⟩ (.int .i32 x.r)).setCell ⟨N,3,none⟩ (.int .i64 x.n)).setCell ⟨N,4,none⟩ (.int .i64 x.b)).setCell ⟨N,5,none⟩ (.int .i64 x.l)).setCell ⟨N,6,none⟩ (.int .i64 x.c)).setCell ⟨N,7,none⟩ (.int .i64 x.e)) (some R)):=kz (by
    have q:=zgg ((WZ.alloc (.cells #[.int .i64 x.k,.string x.S,.int .i32 x.r,.int .i64 x.n,.int .i64 x.b,.int .i64 x.l,.int .i64 x.c,.int .i64 x.e] 147)).setCell ⟨R,0,none⟩ (.slice (some ⟨g,8*k,none⟩) 0 0)) N (.int .i64 x.k) (.string x.S) (.int .i32 x.r) (.int .i64 x.n) (.int .i64 x.b) (.int .i64 x.l) (.int .i64 x.c) (.int .i64 x.e)
    have q0:=zai (oz HGZ) hg3
    have hNN:=oz HN
    exact ⟨q.os.trans q0.os,q.tape.trans q0.tape,q.output.trans q0.output,Nat.le_trans q0.size q.size,fun i hi hn =>(q.block i (by have:=q0.size;omega) (fun e =>by injection e;omega)).trans (q0.block i hi hn)⟩)
   clear hg3 hbN hbR hb8 hR3
   go_wp2_with fail
   rw [oz HT]
   exact bodyPost_ret (v:=wV x) (by simp [results,Tryz.results64,go_sem,r0,r1,r2,r3,r4,r5,r6,r7,wV]) rfl ⟨rfl,oz HFAR,oz HGG⟩
  ·obtain ⟨c2,rfl⟩:∃ c2,c=c2+2:=⟨c - 2,by omega⟩
   have hg3:WZ.grownBy ((WZ.alloc (.cells #[.int .i64 x.k,.string x.S,.int .i32 x.r,.int .i64 x.n,.int .i64 x.b,.int .i64 x.l,.int .i64 x.c,.int .i64 x.e] 147)).setCell ⟨R,0,none⟩ (.slice (some ⟨g,8*k+8,none⟩) m (c2+1))) (some R):=zai (World.grownBy_alloc _ _ _) (zad _ R 0 _)
   have hbN:Blk ((WZ.alloc (.cells #[.int .i64 x.k,.string x.S,.int .i32 x.r,.int .i64 x.n,.int .i64 x.b,.int .i64 x.l,.int .i64 x.c,.int .i64 x.e] 147)).setCell ⟨R,0,none⟩ (.slice (some ⟨g,8*k+8,none⟩) m (c2+1))) N #[.int .i64 0,.string ⟨#[]⟩,.int .i32 0,.int .i64 0,.int .i64 0,.int .i64 0,.int .i64 0,.int .i64 0] 147:=(oz HBZ).kept hg3 (fun e =>by have:=Option.some.inj e;omega)
   have hbR:Blk ((WZ.alloc (.cells #[.int .i64 x.k,.string x.S,.int .i32 x.r,.int .i64 x.n,.int .i64 x.b,.int .i64 x.l,.int .i64 x.c,.int .i64 x.e] 147)).setCell ⟨R,0,none⟩ (.slice (some ⟨g,8*k+8,none⟩) m (c2+1))) R #[.slice (some ⟨g,8*k+8,none⟩) m (c2+1),.pointer (some ⟨Tx,0,none⟩),v] 87:=(hbW.alloc _).set 0 _
   have k0:=hbN.cell 0
   have q0:=hbN.frozen 0
   have k1:=hbN.cell 1
   have q1:=hbN.frozen 1
   have k2:=hbN.cell 2
   have q2:=hbN.frozen 2
   have k3:=hbN.cell 3
   have q3:=hbN.frozen 3
   have k4:=hbN.cell 4
   have q4:=hbN.frozen 4
   have k5:=hbN.cell 5
   have q5:=hbN.frozen 5
   have k6:=hbN.cell 6
   have q6:=hbN.frozen 6
   have k7:=hbN.cell 7
   have q7:=hbN.frozen 7
   have hb8:=box8 hbN (.int .i64 x.k) (.string x.S) (.int .i32 x.r) (.int .i64 x.n) (.int .i64 x.b) (.int .i64 x.l) (.int .i64 x.c) (.int .i64 x.e)
   have r0:=hb8.cell 0
   have r1:=hb8.cell 1
   have r2:=hb8.cell 2
   have r3:=hb8.cell 3
   have r4:=hb8.cell 4
   have r5:=hb8.cell 5
   have r6:=hb8.cell 6
   have r7:=hb8.cell 7
   have hR3:RdAt ((WZ.alloc (.cells #[.int .i64 x.k,.string x.S,.int .i32 x.r,.int .i64 x.n,.int .i64 x.b,.int .i64 x.l,.int .i64 x.c,.int .i64 x.e] 147)).setCell ⟨R,0,none⟩ (.slice (some ⟨g,8*k+8,none⟩) m (c2+1))) R Tx g ws (k+1) none:=(oz H).upd hg3 (oz HK) (some ⟨g,8*k+8,none⟩) (c2+1) v (by rw [← (oz HM).1];exact hbR) (fun _ =>by congr 2) (by rw [← (oz HM).1];omega) (oz HV)
   have HFAR:Hz (RdAt ((((((((((WZ.alloc (.cells #[.int .i64 x.k,.string x.S,.int .i32 x.r,.int .i64 x.n,.int .i64 x.b,.int .i64 x.l,.int .i64 x.c,.int .i64 x.e] 147)).setCell ⟨R,0,none⟩ (.slice (some ⟨g,8*k+8,none⟩) m (c2+1))).setCell ⟨N,0,none⟩ (.int .i64 x.k)).setCell ⟨N,1,none⟩ (.string x.S)).setCell ⟨N,2,none⟩ (.int .i32 x.r)).setCell ⟨N,3,none⟩ (.int .i64 x.n)).setCell ⟨N,4,none⟩ (.int .i64 x.b)).setCell ⟨N,5,none⟩ (.int .i64 x.l)).setCell ⟨N,6,none⟩ (.int .i64 x.c)).setCell ⟨N,7,none⟩ (.int .i64 x.e)) R Tx g ws (k+1) none):=kz (hR3.far (zgg _ N _ _ _ _ _ _ _ _) (by omega) (fun j y hy =>by have:=hglt j y hy;omega) (fun F y hy e =>by subst e;have:=zb9 hy hbN;revert this;decide))
   have HGG:Hz (W.grownBy ((((((((((WZ.alloc (.cells #[.int .i64 x.k,.string x.S,.int .i32 x.r,.int .i64 x.n,.int .i64 x.b,.int .i64 x.l,.int .i64 x.c,.int .i64 x.e] 147)).setCell ⟨R,0,none⟩ (.slice (some ⟨g,8*k+8,none⟩) m (c2+1))).setCell ⟨N,0,none⟩ (.int .i64 x.k)).setCell ⟨N,1,none⟩ (.string x.S)).setCell ⟨N,2,none⟩ (.int .i32 x.r)).setCell ⟨N,3,none⟩ (.int .i64 x.n)).setCell ⟨N,4,none⟩ (.int .i64 x.b)).setCell ⟨N,5,none⟩ (.int .i64 x.l)).setCell ⟨N,6,none⟩ (.int .i64 x.c)).setCell ⟨N,7,none⟩ (.int .i64 x.e)) (some R)):=kz (by
    have q:=zgg ((WZ.alloc (.cells #[.int .i64 x.k,.string x.S,.int .i32 x.r,.int .i64 x.n,.int .i64 x.b,.int .i64 x.l,.int .i64 x.c,.int .i64 x.e] 147)).setCell ⟨R,0,none⟩ (.slice (some ⟨g,8*k+8,none⟩) m (c2+1))) N (.int .i64 x.k) (.string x.S) (.int .i32 x.r) (.int .i64 x.n) (.int .i64 x.b) (.int .i64 x.l) (.int .i64 x.c) (.int .i64 x.e)
    have q0:=zai (oz HGZ) hg3
    have hNN:=oz HN
    exact ⟨q.os.trans q0.os,q.tape.trans q0.tape,q.output.trans q0.output,Nat.le_trans q0.size q.size,fun i hi hn =>(q.block i (by have:=q0.size;omega) (fun e =>by injection e;omega)).trans (q0.block i hi hn)⟩)
   clear hg3 hbN hbR hb8 hR3
   go_wp2_with fail
   rw [oz HT]
   exact bodyPost_ret (v:=wV x) (by simp [results,Tryz.results64,go_sem,r0,r1,r2,r3,r4,r5,r6,r7,wV]) rfl ⟨rfl,oz HFAR,oz HGG⟩
structure RdE (W:World) (R Tx g:Nat) (ws:List W8) (k:Nat) (bad:Option Rf) (eb el ec:Int):Prop where
 rd:RdAt W R Tx g ws k bad
 en:EndAt W Tx eb el ec
 ne:Tx≠R
theorem RdE.step {W W':World} {R Tx g:Nat} {ws:List W8} {k k2:Nat} {bad bad2:Option Rf} {eb el ec:Int} (h:RdE W R Tx g ws k bad eb el ec) (h2:RdAt W' R Tx g ws k2 bad2) (hg:W.grownBy W' (some R)):RdE W' R Tx g ws k2 bad2 eb el ec:=⟨h2,h.en.kept hg (fun e =>h.ne (Option.some.inj e)),h.ne⟩
theorem RdE.alloc {W:World} {R Tx g:Nat} {ws:List W8} {k:Nat} {bad:Option Rf} {eb el ec:Int} (h:RdE W R Tx g ws k bad eb el ec) (o:Obj):RdE (W.alloc o) R Tx g ws k bad eb el ec:=⟨h.rd.alloc o,h.en.kept (World.grownBy_alloc W o none) (by simp),h.ne⟩
theorem zbS (R Tx g:Nat) (ws:List W8) (k:Nat) (bad:Option Rf) (eb el ec kind:Int) (W:World) (h:RdE W R Tx g ws k bad eb el ec) :
  Calls Tryz.prog 64 #[.pointer (some ⟨R,0,none⟩),.int .i64 kind] W fun e w' =>e=.returned (wV (zaa ws k bad eb el ec kind).x)∧RdE w' R Tx g ws (zaa ws k bad eb el ec kind).k (zaa ws k bad eb el ec kind).bad eb el ec∧W.grownBy w' (some R) :=
 (take_any R Tx g ws k bad eb el ec kind W h.rd h.en).mono fun e w' ⟨h1,h2,h3⟩ =>⟨h1,h.step h2 h3,h3⟩
theorem zdA (a:Int) (b:ByteArray) (c d e f g h:Int) (w:World):(Instr.field 147 (.agg #[.int .i64 a,.string b,.int .i32 c,.int .i64 d,.int .i64 e,.int .i64 f,.int .i64 g,.int .i64 h]) 2).run Tryz.prog w=.ok (.int .i32 c) w:=by kernel_rfl
theorem zj3 {W w1:World} {R Tx g N:Nat} {ws:List W8} {k:Nat} {bad:Option Rf} {eb el ec:Int} {a b:Value} (h:RdE w1 R Tx g ws k bad eb el ec) (hg:W.grownBy w1 (some R)) (hb:Blk w1 N #[a,b] 73) (hN:N=W.heap.size) (hR:R < N) (hT:Tx < N) (hgl:∀ (j:Nat) (y:W8),ws[j]?=some y→g < N) (u v:Value) :
  RdE ((w1.setCell ⟨N,0,none⟩ u).setCell ⟨N,1,none⟩ v) R Tx g ws k bad eb el ec∧W.grownBy ((w1.setCell ⟨N,0,none⟩ u).setCell ⟨N,1,none⟩ v) (some R)∧Blk ((w1.setCell ⟨N,0,none⟩ u).setCell ⟨N,1,none⟩ v) N #[u,v] 73:=by
 have q:w1.grownBy ((w1.setCell ⟨N,0,none⟩ u).setCell ⟨N,1,none⟩ v) (some N):=zai (zad w1 N 0 u) (zad _ N 1 v)
 refine ⟨⟨h.rd.far q (by omega) (fun j y hy =>by have:=hgl j y hy;omega) (fun F y hy e =>by subst e;have:=zb9 hy hb;revert this;decide),h.en.kept q (fun e =>by have:=Option.some.inj e;omega),h.ne⟩,⟨q.os.trans hg.os,q.tape.trans hg.tape,q.output.trans hg.output,Nat.le_trans hg.size q.size,fun i hi hn =>(q.block i (by have:=hg.size;omega) (fun e =>by injection e;omega)).trans (hg.block i hi hn)⟩,(hb.set 0 u).set 1 v⟩
structure Sn where
 lo:Int
 hi:Int
 k:Nat
 bad:Option Rf
def zbs (ws:List W8) (k:Nat) (bad:Option Rf) (eb el ec:Int):Sn :=
 let a:=zaa ws k bad eb el ec 3
 if zaJ ws a.k a.bad 9 then
  let b:=zaa ws a.k a.bad eb el ec 9
  let c:=zaa ws b.k b.bad eb el ec 3
  ⟨a.x.r,c.x.r,c.k,c.bad⟩
 else ⟨a.x.r,a.x.r,a.k,a.bad⟩
set_option maxRecDepth 100000 in
set_option maxHeartbeats 4000000 in
theorem span_any (R Tx g:Nat) (ws:List W8) (k:Nat) (bad:Option Rf) (eb el ec:Int) (W:World) (h:RdE W R Tx g ws k bad eb el ec) :
  Calls Tryz.prog 169 #[.pointer (some ⟨R,0,none⟩)] W fun e w' =>e=.returned (.agg #[.int .i32 (zbs ws k bad eb el ec).lo,.int .i32 (zbs ws k bad eb el ec).hi])∧RdE w' R Tx g ws (zbs ws k bad eb el ec).k (zbs ws k bad eb el ec).bad eb el ec∧W.grownBy w' (some R):=by
 have hRW:R < W.heap.size:=by obtain ⟨a,c,v,hb,_⟩:=h.rd.blk;exact hb.lt
 have hglt:=h.rd.glt
 have hTW:Tx < W.heap.size:=zdF h.en.c0
 have hz:=h.alloc (.cells #[.int .i32 0,.int .i32 0] 73)
 have hgz:=World.grownBy_alloc W (.cells #[.int .i32 0,.int .i32 0] 73) (some R)
 have hbz:=Blk.new W #[.int .i32 0,.int .i32 0] 73
 obtain ⟨N,hN⟩:∃ N,N=W.heap.size:=⟨_,rfl⟩
 have HN:=kz hN
 rw [← hN] at hbz
 have H:=kz (And.intro hz (And.intro hgz hbz))
 have hRN:R < N:=by omega
 have hTN:Tx < N:=by omega
 have HGL:Hz (∀ (j:Nat) (y:W8),ws[j]?=some y→g < N):=kz (fun j y hy =>by have:=hglt j y hy;omega)
 clear h hz hgz hbz hglt
 go_enter Tryz.func169,Tryz.ntmps169
 go_wp2_with fail
 generalize W.alloc (.cells #[.int .i32 0,.int .i32 0] 73)=WZ at *
 rw [← oz HN]
 clear hN
 refine (zbS R Tx g ws k bad eb el ec 3 WZ (oz H).1).mono ?_
 rintro e w1 ⟨rfl,hR1,hg1⟩
 have H1:=kz (And.intro hR1 (And.intro (zai (oz H).2.1 hg1) ((oz H).2.2.kept hg1 (fun e =>by have:=Option.some.inj e;omega))))
 have HSV:Hz (zbs ws k bad eb el ec=if zaJ ws (zaa ws k bad eb el ec 3).k (zaa ws k bad eb el ec 3).bad 9 then ⟨(zaa ws k bad eb el ec 3).x.r,(zaa ws (zaa ws (zaa ws k bad eb el ec 3).k (zaa ws k bad eb el ec 3).bad eb el ec 9).k (zaa ws (zaa ws k bad eb el ec 3).k (zaa ws k bad eb el ec 3).bad eb el ec 9).bad eb el ec 3).x.r,(zaa ws (zaa ws (zaa ws k bad eb el ec 3).k (zaa ws k bad eb el ec 3).bad eb el ec 9).k (zaa ws (zaa ws k bad eb el ec 3).k (zaa ws k bad eb el ec 3).bad eb el ec 9).bad eb el ec 3).k,(zaa ws (zaa ws (zaa ws k bad eb el ec 3).k (zaa ws k bad eb el ec 3).bad eb el ec 9).k (zaa ws (zaa ws k bad eb el ec 3).k (zaa ws k bad eb el ec 3).bad eb el ec 9).bad eb el ec 3).bad⟩ else ⟨(zaa ws k bad eb el ec 3).x.r,(zaa ws k bad eb el ec 3).x.r,(zaa ws k bad eb el ec 3).k,(zaa ws k bad eb el ec 3).bad⟩):=kz rfl
 clear hR1 hg1 H
 generalize zaa ws k bad eb el ec 3=A at *
 obtain ⟨⟨ak,aS,ar,an,ab,al,ac,ae⟩,k1,bad1⟩:=A
 dsimp only at HSV H1
 unfold wV
 dsimp only
 have hf:=zdA ak aS ar an ab al ac ae
 have HS:=kz (zfI R Tx g ws k1 bad1 9 w1 (oz H1).1.rd)
 cases hs:zaJ ws k1 bad1 9 with
 | false =>
  rw [hs] at HS HSV
  have HSV2:Hz (zbs ws k bad eb el ec=⟨ar,ar,k1,bad1⟩):=kz ((oz HSV).trans rfl)
  clear hs HSV
  go_wp2_with fail
  refine (oz HS).mono ?_
  rintro e w2 ⟨rfl,hw2⟩
  rw [hw2]
  clear hw2 HS
  have hb1:=(oz H1).2.2
  have k0:=hb1.cell 0
  have q0:=hb1.frozen 0
  have k1':=hb1.cell 1
  have q1:=hb1.frozen 1
  have hfin:=zj3 (oz H1).1 (oz H1).2.1 hb1 (oz HN) hRN hTN (oz HGL) (.int .i32 ar) (.int .i32 ar)
  have r0:=hfin.2.2.cell 0
  have r1:=hfin.2.2.cell 1
  have HFIN:=kz (And.intro hfin.1 hfin.2.1)
  clear hfin hb1
  go_wp2_with fail
  rw [oz HSV2]
  exact bodyPost_ret (v := .agg #[.int .i32 ar,.int .i32 ar]) (by simp [results,Tryz.results169,go_sem,r0,r1]) rfl ⟨rfl,(oz HFIN).1,(oz HFIN).2⟩
 | true =>
  rw [hs] at HS HSV
  have HSV2:=kz ((oz HSV).trans (if_pos rfl))
  clear hs HSV
  go_wp2_with fail
  refine (oz HS).mono ?_
  rintro e w2 ⟨rfl,hw2⟩
  rw [hw2]
  clear hw2 HS
  go_wp2_with fail
  refine (zbS R Tx g ws k1 bad1 eb el ec 9 w1 (oz H1).1).mono ?_
  rintro e w3 ⟨rfl,hR3,hg3⟩
  have H3:=kz (And.intro hR3 (And.intro (zai (oz H1).2.1 hg3) ((oz H1).2.2.kept hg3 (fun e =>by have:=Option.some.inj e;omega))))
  clear hR3 hg3 H1
  generalize zaa ws k1 bad1 eb el ec 9=B9 at *
  obtain ⟨b9,k3,bad3⟩:=B9
  dsimp only at HSV2 H3
  dsimp only
  generalize wV b9=vb9
  go_wp2_with fail
  refine (zbS R Tx g ws k3 bad3 eb el ec 3 w3 (oz H3).1).mono ?_
  rintro e w4 ⟨rfl,hR4,hg4⟩
  have H4:=kz (And.intro hR4 (And.intro (zai (oz H3).2.1 hg4) ((oz H3).2.2.kept hg4 (fun e =>by have:=Option.some.inj e;omega))))
  clear hR4 hg4 H3
  generalize zaa ws k3 bad3 eb el ec 3=C3 at *
  obtain ⟨⟨ck,cS,cr,cn,cb,cl,cc,ce⟩,k4,bad4⟩:=C3
  dsimp only at HSV2 H4
  unfold wV
  dsimp only
  have hf2:=zdA ck cS cr cn cb cl cc ce
  have hb1:=(oz H4).2.2
  have k0:=hb1.cell 0
  have q0:=hb1.frozen 0
  have k1':=hb1.cell 1
  have q1:=hb1.frozen 1
  have hfin:=zj3 (oz H4).1 (oz H4).2.1 hb1 (oz HN) hRN hTN (oz HGL) (.int .i32 ar) (.int .i32 cr)
  have r0:=hfin.2.2.cell 0
  have r1:=hfin.2.2.cell 1
  have HFIN:=kz (And.intro hfin.1 hfin.2.1)
  clear hfin hb1
  go_wp2_with fail
  rw [oz HSV2]
  exact bodyPost_ret (v := .agg #[.int .i32 ar,.int .i32 cr]) (by simp [results,Tryz.results169,go_sem,r0,r1]) rfl ⟨rfl,(oz HFIN).1,(oz HFIN).2⟩
theorem zat {W W':World} {lo E sz n:Nat} {v:Value} {xs:List Value} {row:Option Nat} (h:W.ownsRow lo E sz v n xs) (hg:W.grownBy W' row) (hne:v.ownBlock=none∨v.ownBlock≠row):W'.ownsRow lo E sz v n xs:=by
 refine ⟨h.1, ?_⟩
 rcases h.2 with h2 | ⟨g,cap,cur,e,hb,h3,r⟩
 ·exact .inl h2
 ·refine .inr ⟨g,cap,cur,e,hb, ?_,r⟩
  subst e
  rw [hg.block g (Array.getElem?_eq_some_iff.1 h3).1 (by rcases hne with h4 | h4;exact absurd h4 (by simp [Value.ownBlock]);exact h4)]
  exact h3
theorem zcA {W:World} {base base' E E' sz sz' n n':Nat} {v v':Value} {xs xs':List Value} (h:W.ownsRow base E sz v n xs) (h':W.ownsRow base' E' sz' v' n' xs') (hE:E≠E'):v.ownBlock=none∨v.ownBlock≠v'.ownBlock:=by
 rcases h.2 with ⟨rfl,_⟩ | ⟨g,cap,cur,rfl,_,hg,_⟩
 ·exact .inl rfl
 ·refine .inr ?_
  rcases h'.2 with ⟨rfl,_⟩ | ⟨g',cap',cur',rfl,_,hg',_⟩
  ·simp [Value.ownBlock]
  ·simp only [Value.ownBlock]
   intro e
   have e:=Option.some.inj e
   subst e
   exact hE (zb9 (show Blk W g cur E from hg) (show Blk W g cur' E' from hg'))
theorem zam {W:World} {lo E sz n:Nat} {v:Value} {xs:List Value} (h:W.ownsRow lo E sz v n xs):∀ k,v.ownBlock=some k→lo≤k:=by
 rcases h.2 with ⟨rfl,_⟩ | ⟨g,cap,cur,rfl,hl,hg,_⟩
 ·intro k e;simp [Value.ownBlock] at e
 ·intro k e;simp [Value.ownBlock] at e;omega
theorem RdE.own {W W':World} {R Tx g lo E sz n:Nat} {v:Value} {xs:List Value} {ws:List W8} {k:Nat} {bad:Option Rf} {eb el ec:Int} (h:RdE W R Tx g ws k bad eb el ec) (ho:W.ownsRow lo E sz v n xs) (hE:E≠80) (hR:R < lo) (hT:Tx < lo) (hgl:∀ (j:Nat) (y:W8),ws[j]?=some y→g < lo) (hg:W.grownBy W' v.ownBlock):RdE W' R Tx g ws k bad eb el ec:=by
 rcases ho.2 with ⟨rfl,_⟩ | ⟨N,cap,cur,rfl,hl,hN,_⟩
 ·have hg:W.grownBy W' none:=hg
  obtain ⟨a,c,v,hb,ha,hc,hv⟩:=h.rd.blk
  exact ⟨h.rd.upd ⟨hg.os,hg.tape,hg.output,hg.size,fun i hi _ =>hg.block i hi (by simp)⟩ h.rd.kn a c v (hb.kept hg (by simp)) ha hc (hv.kept hg (fun F x _ =>by simp)),h.en.kept hg (by simp),h.ne⟩
 ·have hg:W.grownBy W' (some N):=hg
  exact ⟨h.rd.far hg (by omega) (fun j y hy =>by have:=hgl j y hy;omega) (fun F y hy e =>by subst e;exact hE (zb9 (show Blk W F cur E from hN) hy)),h.en.kept hg (fun e =>by have:=Option.some.inj e;omega),h.ne⟩
def zap:List (Int × Int)→List Value
 | [] => []
 | x::t =>.int .i32 x.1::.int .i32 x.2::zap t
def za6:List (Int × Int × Int)→List Value
 | [] => []
 | x::t =>.int .i64 x.1::.int .i64 x.2.1::.int .i64 x.2.2::za6 t
theorem zg1 (t:List (Int × Int)) (a b:Int):zap (t++[(a,b)])=zap t++[.int .i32 a,.int .i32 b]:=by
 induction t with
 | nil =>rfl
 | cons x t ih =>show _::_::zap (t++[(a,b)])=_::_::_;rw [ih];rfl
theorem encA3_snoc (t:List (Int × Int × Int)) (a b c:Int):za6 (t++[(a,b,c)])=za6 t++[.int .i64 a,.int .i64 b,.int .i64 c]:=by
 induction t with
 | nil =>rfl
 | cons x t ih =>show _::_::_::za6 (t++[(a,b,c)])=_::_::_::_;rw [ih];rfl
structure SpSt (W W':World) (R Tx g:Nat) (ws:List W8) (k:Nat) (bad:Option Rf) (eb el ec:Int) (vs vp:Value) (ss:List (Int × Int)) (ps:List (Int × Int × Int)):Prop where
 rd:RdE W' R Tx g ws k bad eb el ec
 os:W'.ownsRow W.heap.size 73 2 vs ss.length (zap ss)
 op:W'.ownsRow W.heap.size 53 3 vp ps.length (za6 ps)
 gr:W.grownBy W' (some R)
 hR:R < W.heap.size
 hT:Tx < W.heap.size
 hg:∀ (j:Nat) (y:W8),ws[j]?=some y→g < W.heap.size
 ns:ss=[]→vs=.slice none 0 0
 np:ps=[]→vp=.slice none 0 0
theorem zeR {W W1 W2:World} {R:Nat} {v:Value} (h:W.grownBy W1 (some R)) (hv:∀ k,v.ownBlock=some k→W.heap.size≤k) (hg:W1.grownBy W2 v.ownBlock):W.grownBy W2 (some R) :=
 ⟨hg.os.trans h.os,hg.tape.trans h.tape,hg.output.trans h.output,Nat.le_trans h.size hg.size,fun i hi hn =>(hg.block i (by have:=h.size;omega) (fun e =>by have:=hv i e.symm;omega)).trans (h.block i hi hn)⟩
theorem SpSt.call {W W1 W2:World} {R Tx g:Nat} {ws:List W8} {k k2:Nat} {bad bad2:Option Rf} {eb el ec:Int} {vs vp:Value} {ss:List (Int × Int)} {ps:List (Int × Int × Int)} (h:SpSt W W1 R Tx g ws k bad eb el ec vs vp ss ps) (h2:RdE W2 R Tx g ws k2 bad2 eb el ec) (hg:W1.grownBy W2 (some R)):SpSt W W2 R Tx g ws k2 bad2 eb el ec vs vp ss ps :=
 ⟨h2,zat h.os hg (.inr fun e =>by have:=zam h.os R e;have:=h.hR;omega),zat h.op hg (.inr fun e =>by have:=zam h.op R e;have:=h.hR;omega),zai h.gr hg,h.hR,h.hT,h.hg,h.ns,h.np⟩
theorem SpSt.alloc {W W1:World} {R Tx g:Nat} {ws:List W8} {k:Nat} {bad:Option Rf} {eb el ec:Int} {vs vp:Value} {ss:List (Int × Int)} {ps:List (Int × Int × Int)} (h:SpSt W W1 R Tx g ws k bad eb el ec vs vp ss ps) (o:Obj):SpSt W (W1.alloc o) R Tx g ws k bad eb el ec vs vp ss ps:=h.call (h.rd.alloc o) (World.grownBy_alloc W1 o _)
theorem SpSt.place {W W1 W2:World} {R Tx g:Nat} {ws:List W8} {k:Nat} {bad:Option Rf} {eb el ec:Int} {vs vp vp':Value} {ss:List (Int × Int)} {ps:List (Int × Int × Int)} {a b c:Int} (h:SpSt W W1 R Tx g ws k bad eb el ec vs vp ss ps) (ho:W2.ownsRow W.heap.size 53 3 vp' (ps.length+1) (za6 ps++[.int .i64 a,.int .i64 b,.int .i64 c])) (hg:W1.grownBy W2 vp.ownBlock):SpSt W W2 R Tx g ws k bad eb el ec vs vp' ss (ps++[(a,b,c)]) :=
 ⟨h.rd.own h.op (by decide) h.hR h.hT h.hg hg,zat h.os hg (zcA h.os h.op (by decide)),by rw [encA3_snoc,List.length_append];exact ho,zeR h.gr (zam h.op) hg,h.hR,h.hT,h.hg,h.ns,fun e =>absurd e (by simp)⟩
theorem SpSt.span {W W1 W2:World} {R Tx g:Nat} {ws:List W8} {k:Nat} {bad:Option Rf} {eb el ec:Int} {vs vs' vp:Value} {ss:List (Int × Int)} {ps:List (Int × Int × Int)} {a b:Int} (h:SpSt W W1 R Tx g ws k bad eb el ec vs vp ss ps) (ho:W2.ownsRow W.heap.size 73 2 vs' (ss.length+1) (zap ss++[.int .i32 a,.int .i32 b])) (hg:W1.grownBy W2 vs.ownBlock):SpSt W W2 R Tx g ws k bad eb el ec vs' vp (ss++[(a,b)]) ps :=
 ⟨h.rd.own h.os (by decide) h.hR h.hT h.hg hg,by rw [zg1,List.length_append];exact ho,zat h.op hg (zcA h.op h.os (by decide)),zeR h.gr (zam h.os) hg,h.hR,h.hT,h.hg,fun e =>absurd e (by simp),h.np⟩
structure Sps where
 ss:List (Int × Int)
 ps:List (Int × Int × Int)
 k:Nat
 bad:Option Rf
def atV (ws:List W8) (k:Nat):Int × Int × Int:=match ws[k]? with
 | some x =>(x.b,x.l,x.c)
 | none =>(0,0,0)
def zaT (ws:List W8) (eb el ec:Int):Nat→Nat→Option Rf→Sps
 | 0,k,bad =>⟨[],[],k,bad⟩
 | f+1,k,bad =>if zaJ ws k bad 3 then
   let s:=zbs ws k bad eb el ec
   let r:=zaT ws eb el ec f s.k s.bad
   ⟨(s.lo,s.hi)::r.ss,atV ws k::r.ps,r.k,r.bad⟩
  else ⟨[],[],k,bad⟩
def zaf (ws:List W8) (k:Nat) (bad:Option Rf) (eb el ec:Int):Sps :=
 let a:=zaa ws k bad eb el ec 4
 let r:=zaT ws eb el ec (ws.length+1) a.k a.bad
 let z:=zaa ws r.k r.bad eb el ec 5
 ⟨r.ss,r.ps,z.k,z.bad⟩
theorem zbl {ws:List W8} {k:Nat} {bad:Option Rf} {kind:Int} (h:zaJ ws k bad kind=true):∃ x,ws[k]?=some x∧k < ws.length∧bad=none:=by
 unfold zaJ at h
 split at h
 ·rename_i x hx;exact ⟨x,hx,(List.getElem?_eq_some_iff.1 hx).1,rfl⟩
 ·cases h
theorem zaM (ws:List W8) (k:Nat) (bad:Option Rf) (eb el ec kind:Int) (hk:k≤ws.length):k≤(zaa ws k bad eb el ec kind).k∧(zaa ws k bad eb el ec kind).k≤ws.length:=by
 unfold zaa
 split
 ·rename_i x h1 h2;have:=(List.getElem?_eq_some_iff.1 h2).1;exact ⟨Nat.le_succ k,this⟩
 ·exact ⟨Nat.le_refl k,hk⟩
theorem zhX {ws:List W8} {k:Nat} {bad:Option Rf} (eb el ec:Int) {kind:Int} (h:zaJ ws k bad kind=true):(zaa ws k bad eb el ec kind).k=k+1:=by
 obtain ⟨x,hx,_,_⟩:=zbl h
 unfold zaa
 rw [h,hx]
theorem zj4 {ws:List W8} {k:Nat} {bad:Option Rf} (eb el ec:Int) (h:zaJ ws k bad 3=true):k < (zbs ws k bad eb el ec).k∧(zbs ws k bad eb el ec).k≤ws.length:=by
 have h1:=zhX eb el ec h
 obtain ⟨x,hx,hk,_⟩:=zbl h
 unfold zbs
 dsimp only
 split
 ·have h2:=zaM ws (zaa ws k bad eb el ec 3).k (zaa ws k bad eb el ec 3).bad eb el ec 9 (by omega)
  have h3:=zaM ws _ (zaa ws (zaa ws k bad eb el ec 3).k (zaa ws k bad eb el ec 3).bad eb el ec 9).bad eb el ec 3 h2.2
  dsimp only
  omega
 ·dsimp only;omega
structure SgSt (ws:List W8) (eb el ec:Int) (T:Sps) (f k:Nat) (bad:Option Rf) (ss:List (Int × Int)) (ps:List (Int × Int × Int)):Prop where
 eq:T=⟨ss++(zaT ws eb el ec f k bad).ss,ps++(zaT ws eb el ec f k bad).ps,(zaT ws eb el ec f k bad).k,(zaT ws eb el ec f k bad).bad⟩
 fu:ws.length - k < f
 le:k≤ws.length
 len:ss.length≤k
 lep:ps.length≤k
theorem SgSt.stop {ws:List W8} {eb el ec:Int} {T:Sps} {f k:Nat} {bad:Option Rf} {ss:List (Int × Int)} {ps:List (Int × Int × Int)} (h:SgSt ws eb el ec T f k bad ss ps) (hs:zaJ ws k bad 3=false):T=⟨ss,ps,k,bad⟩:=by
 obtain ⟨g,rfl⟩:∃ g,f=g+1:=⟨f - 1,by have:=h.fu;omega⟩
 have e:=h.eq
 unfold zaT at e
 rw [if_neg (by rw [hs];decide)] at e
 rw [e]
 simp
theorem SgSt.next {ws:List W8} {eb el ec:Int} {T:Sps} {f k:Nat} {bad:Option Rf} {ss:List (Int × Int)} {ps:List (Int × Int × Int)} (h:SgSt ws eb el ec T f k bad ss ps) (hs:zaJ ws k bad 3=true):∃ f',SgSt ws eb el ec T f' (zbs ws k bad eb el ec).k (zbs ws k bad eb el ec).bad (ss++[((zbs ws k bad eb el ec).lo,(zbs ws k bad eb el ec).hi)]) (ps++[atV ws k]):=by
 obtain ⟨g,rfl⟩:∃ g,f=g+1:=⟨f - 1,by have:=h.fu;omega⟩
 have hl:=zj4 eb el ec hs
 have e:=h.eq
 unfold zaT at e
 rw [if_pos hs] at e
 have h1:=h.fu
 have h2:=h.len
 have h3:=h.lep
 refine ⟨g,by rw [e];simp,by omega,hl.2,by rw [List.length_append,List.length_singleton];omega,by rw [List.length_append,List.length_singleton];omega⟩
end Go.Proofs.YtmdgejgokoadlaaGreatDoor
