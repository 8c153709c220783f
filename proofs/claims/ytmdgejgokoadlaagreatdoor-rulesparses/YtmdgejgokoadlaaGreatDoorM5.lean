/- Texts of this claim, one behind the other. -/
import Derived.Test.YtmdgejgokoadlaaGreatDoorM1
import Derived.Test.YtmdgejgokoadlaaGreatDoorM4
import Derived.Laws.StructEq
import Derived.Deep.QuietTactic
import Derived.WalkKit
import Derived.BigQuiet
import Derived.BigRegion
/- Words as elements of lists; Same of the books at lists of words. -/
namespace Go.Proofs.YtmdgejgokoadlaaGreatDoor
open Go.RowKit Go.Shelf
set_option linter.unusedVariables false
structure W8 where
  k:Int
  S:ByteArray
  r:Int
  n:Int
  b:Int
  l:Int
  c:Int
  e:Int
def w8Cells (x:W8):List Value := [.int .i64 x.k,.string x.S,.int .i32 x.r,.int .i64 x.n,.int .i64 x.b,.int .i64 x.l,.int .i64 x.c,.int .i64 x.e]
def encW (zs:List W8):List Value:=zs.flatMap w8Cells
theorem encW_cons (x:W8) (zs:List W8):encW (x::zs)=w8Cells x++encW zs:=rfl
theorem encW_length (zs:List W8):(encW zs).length=zs.length*8:=by
  induction zs with
  | nil =>rfl
  | cons x zs ih =>rw [encW_cons,List.length_append,ih,List.length_cons];show 8+_=_;omega
theorem encW_at (zs:List W8) (j:Nat) (x:W8) (h:zs[j]?=some x):∀ i u,(w8Cells x)[i]?=some u→(encW zs)[j*8+i]?=some u:=by
  induction zs generalizing j with
  | nil =>simp at h
  | cons y zs ih =>
    intro i u hu
    have hi:i < 8:=(List.getElem?_eq_some_iff.1 hu).1
    cases j with
    | zero =>
      obtain rfl:y=x:=by simpa using h
      rw [encW_cons,Nat.zero_mul,Nat.zero_add,List.getElem?_append_left (by exact hi)]
      exact hu
    | succ j =>
      have h':zs[j]?=some x:=by simpa using h
      rw [encW_cons,List.getElem?_append_right (by show 8≤_;omega),show (j+1)*8+i - (w8Cells y).length=j*8+i by show (j+1)*8+i - 8=_;omega]
      exact ih j h' i u hu
def w8 (x:Wd):W8:=⟨x.v.kind,x.v.S,x.v.R,x.v.N,x.b,x.l,x.c,x.e⟩
theorem encW_ws (ws:List Wd):encW (ws.map w8)=encWs ws:=by
  unfold encW encWs
  rw [List.flatMap_map]
  rfl
def RowW (W:World) (a:Option Addr) (zs:List W8):Prop:=0 < zs.length→∃ g,a=some ⟨g,0,none⟩∧g < W.heap.size∧∀ j x,zs[j]?=some x→∀ i u,(w8Cells x)[i]?=some u→W.cell? ⟨g,j*8+i,none⟩=some u
theorem own_rowW {W:World} {base n:Nat} {v:Value} {zs:List W8} (h:W.ownsRow base 147 8 v n (encW zs)):∃ a c,v=.slice a zs.length c∧RowW W a zs∧n=zs.length∧zs.length≤c:=by
  obtain ⟨hl,h⟩:=h
  rw [encW_length] at hl
  have hn:n=zs.length:=by omega
  subst hn
  rcases h with ⟨rfl,h0⟩ | ⟨g,cap,cur,rfl,hb,hg,h1,h2,h3,h4⟩
  · exact ⟨none,0,by rw [h0],fun h =>by omega,rfl,by omega⟩
  · refine ⟨_,cap,rfl,fun h0 =>⟨g,rfl,(Array.getElem?_eq_some_iff.1 hg).1,fun j x hj i u hu =>?_⟩,rfl,h1⟩
    have hbk:Blk W g cur 147:=hg
    have e:=encW_at zs j x hj i u hu
    rw [← h4] at e
    have hjl:=(List.getElem?_eq_some_iff.1 hj).1
    have hil:i < 8:=(List.getElem?_eq_some_iff.1 hu).1
    rw [List.getElem?_take,if_pos (by omega)] at e
    rw [Blk.cell hbk]
    simpa using e
theorem below_drewNW {B:Nat} {a w:World} (h:Below B a w) (n:Nat):Below B a (w.drewN n):=h.trans ⟨rfl,rfl,rfl,Nat.le_refl _,fun _ _ =>rfl⟩
structure Rf where
  b:Int
  l:Int
  c:Int
  why:Int
def rfCells (x:Rf):Array Value:=#[.int .i64 x.b,.int .i64 x.l,.int .i64 x.c,.int .i64 x.why]
def RefAt (W:World) (R:Nat) (v:Value):Option Rf→Prop
  | none =>v=.pointer none
  | some x => ∃ F,v=.pointer (some ⟨F,0,none⟩)∧R < F∧Blk W F (rfCells x) 80
def WordsAt (W:World) (g:Nat) (ws:List W8):Prop := ∀ j x,ws[j]?=some x→∀ i u,(w8Cells x)[i]?=some u→W.cell? ⟨g,8*j+i,none⟩=some u
structure RdAt (W:World) (R Tx g:Nat) (ws:List W8) (k:Nat) (bad:Option Rf):Prop where
  kn:k≤ws.length
  nmax:ws.length≤1000000
  blk:∃ a c v,Blk W R #[.slice a (ws.length - k) c,.pointer (some ⟨Tx,0,none⟩),v] 87∧(k < ws.length→a=some ⟨g,8*k,none⟩)∧ws.length - k≤c∧RefAt W R v bad
  words:WordsAt W g ws
  gR:g≠R
def seesB (ws:List W8) (k:Nat) (bad:Option Rf) (kind:Int):Bool:=match bad,ws[k]? with
  | none,some x =>x.k == kind
  | _,_ =>false
theorem WordsAt.first {W:World} {g:Nat} {ws:List W8} (h:WordsAt W g ws) {k:Nat} {x:W8} (hx:ws[k]?=some x):W.cell? ⟨g,8*k,none⟩=some (.int .i64 x.k):=h k x hx 0 _ rfl
set_option maxRecDepth 100000 in
set_option maxHeartbeats 4000000 in
theorem sees_any (R Tx g:Nat) (ws:List W8) (k:Nat) (bad:Option Rf) (kind:Int) (W:World) (h:RdAt W R Tx g ws k bad) :
    Calls Tryz.prog 119 #[.pointer (some ⟨R,0,none⟩),.int .i64 kind] W fun e w' =>e=.returned (.bool (seesB ws k bad kind))∧w'=W:=by
  obtain ⟨a,c,v,hb,ha,hc,hv⟩:=h.blk
  have hw:=h.words
  have hkn:=h.kn
  have hnm:=h.nmax
  have c0:=hb.cell 0
  have c2:=hb.cell 2
  clear h hb
  go_enter Tryz.func119,Tryz.ntmps119
  cases bad with
  | some x =>
    obtain ⟨F,rfl,_,hF⟩:=hv
    clear hF
    go_wp2_with fail
    go_ret
    exact ⟨rfl,rfl⟩
  | none =>
    subst hv
    cases hx:ws[k]? with
    | none =>
      have hk:ws.length - k=0:=by have:=List.getElem?_eq_none_iff.1 hx;omega
      rw [hk] at c0
      have HE:=kz (show seesB ws k none kind=false by simp only [seesB,hx])
      clear hx hk hkn hc ha hw
      go_wp2_with fail
      go_ret
      exact ⟨by rw [oz HE];rfl,rfl⟩
    | some x =>
      have hk:=(List.getElem?_eq_some_iff.1 hx).1
      obtain rfl:=ha hk
      have w0:=hw.first hx
      have hpos:(0:Int) < ((ws.length - k:Nat):Int):=by omega
      have HE:=kz (show seesB ws k none kind=(x.k == kind) by simp only [seesB,hx])
      obtain ⟨m,hm⟩:∃ m,m=ws.length - k:=⟨_,rfl⟩
      rw [← hm] at c0 hpos
      clear hx ha hw hm hc hkn hk
      go_wp2_with fail
      go_ret
      exact ⟨by rw [oz HE];rfl,rfl⟩
structure EndAt (W:World) (Tx:Nat) (eb el ec:Int):Prop where
  c0:W.cell? ⟨Tx,17,none⟩=some (.int .i64 eb)
  c1:W.cell? ⟨Tx,18,none⟩=some (.int .i64 el)
  c2:W.cell? ⟨Tx,19,none⟩=some (.int .i64 ec)
def refV (ws:List W8) (k:Nat) (eb el ec:Int):Rf:=match ws[k]? with
  | some x =>⟨x.b,x.l,x.c,5⟩
  | none =>⟨eb,el,ec,21⟩
theorem grown_trans' {a b c:World} {row:Option Nat} (h:a.grownBy b row) (k:b.grownBy c row):a.grownBy c row :=
  ⟨k.os.trans h.os,k.tape.trans h.tape,k.output.trans h.output,Nat.le_trans h.size k.size,fun i hi hn =>(k.block i (by have:=h.size;omega) hn).trans (h.block i hi hn)⟩
theorem grown_set' (W:World) (B i:Nat) (v:Value):W.grownBy (W.setCell ⟨B,i,none⟩ v) (some B):=⟨rfl,rfl,rfl,(KeepsWalks.setCell W _ _).size,fun k hk hn =>Below.heap_setCell W ⟨B,i,none⟩ _ k (fun e =>hn (by rw [e]))⟩
theorem RefAt.kept {W W':World} {R:Nat} {v:Value} {bad:Option Rf} {row:Option Nat} (h:RefAt W R v bad) (hg:W.grownBy W' row) (hne:∀ F x,Blk W F (rfCells x) 80→some F≠row):RefAt W' R v bad:=by
  cases bad with
  | none =>exact h
  | some x =>
    obtain ⟨F,e,hRF,hF⟩:=h
    exact ⟨F,e,hRF,hF.kept hg (hne F x hF)⟩
theorem RdAt.upd {W W':World} {R Tx g:Nat} {ws:List W8} {k k2:Nat} {bad bad2:Option Rf} (h:RdAt W R Tx g ws k bad) (hg:W.grownBy W' (some R)) (hk:k2≤ws.length) (a:Option Addr) (c:Nat) (v:Value)
    (hb:Blk W' R #[.slice a (ws.length - k2) c,.pointer (some ⟨Tx,0,none⟩),v] 87) (ha:k2 < ws.length→a=some ⟨g,8*k2,none⟩) (hc:ws.length - k2≤c) (hv:RefAt W' R v bad2):RdAt W' R Tx g ws k2 bad2 :=
  ⟨hk,h.nmax,⟨a,c,v,hb,ha,hc,hv⟩,fun j x hx i u hu =>hg.cell (h.words j x hx i u hu) (by show some g≠some R;intro e;exact h.gR (Option.some.inj e)),h.gR⟩
set_option maxRecDepth 100000 in
set_option maxHeartbeats 4000000 in
theorem refuse_any (R Tx g:Nat) (ws:List W8) (k:Nat) (bad:Option Rf) (eb el ec:Int) (W:World) (h:RdAt W R Tx g ws k bad) (hE:EndAt W Tx eb el ec) :
    Calls Tryz.prog 63 #[.pointer (some ⟨R,0,none⟩)] W fun e w' =>(∃ r,e=.returned r)∧RdAt w' R Tx g ws k (some (refV ws k eb el ec))∧W.grownBy w' (some R):=by
  have H:=kz h
  obtain ⟨a,c,v,hb,ha,hc,hv⟩:=h.blk
  have hkn:=h.kn
  have hnm:=h.nmax
  have c0:=hb.cell 0
  have c1:=hb.cell 1
  have c2:=hb.cell 2
  have f2:=hb.frozen 2
  have e0:=hE.c0
  have e1:=hE.c1
  have e2:=hE.c2
  have hRl:=hb.lt
  clear h hE
  go_enter Tryz.func63,Tryz.ntmps63
  cases hx:ws[k]? with
  | none =>
    have hk:ws.length - k=0:=by have:=List.getElem?_eq_none_iff.1 hx;omega
    have HE:=kz (show refV ws k eb el ec=⟨eb,el,ec,21⟩ by simp only [refV,hx])
    have HK:=kz hk
    rw [hk] at c0
    have HB:=kz hb
    have HA:=kz ha
    have HC:=kz hc
    clear hb ha hc hv hk hx
    go_wp2_with fail
    go_end0
    have hz:(W.setCell ⟨R,2,none⟩ (.pointer (some ⟨W.heap.size,0,none⟩))).heap.size=W.heap.size:=by simp
    have hg:W.grownBy ((W.setCell ⟨R,2,none⟩ (.pointer (some ⟨W.heap.size,0,none⟩))).alloc (.cells (rfCells ⟨eb,el,ec,21⟩) 80)) (some R):=grown_trans' (grown_set' W R 2 _) (World.grownBy_alloc _ _ _)
    have hF:=Blk.new (W.setCell ⟨R,2,none⟩ (.pointer (some ⟨W.heap.size,0,none⟩))) (rfCells ⟨eb,el,ec,21⟩) 80
    rw [hz] at hF
    refine ⟨⟨_,rfl⟩, ?_,hg⟩
    rw [oz HE]
    exact (oz H).upd hg hkn a c (.pointer (some ⟨W.heap.size,0,none⟩)) (((oz HB).set 2 _).alloc _) (oz HA) (oz HC) ⟨W.heap.size,rfl,hRl,hF⟩
  | some x =>
    have hk:=(List.getElem?_eq_some_iff.1 hx).1
    obtain rfl:=ha hk
    have hw:=(oz H).words
    have hgR:=(oz H).gR
    have hg1:W.grownBy ((W.setCell ⟨R,2,none⟩ (.pointer (some ⟨W.heap.size,0,none⟩))).alloc (.cells #[.int .i64 eb,.int .i64 el,.int .i64 ec,.int .i64 21] 80)) (some R):=grown_trans' (grown_set' W R 2 _) (World.grownBy_alloc _ _ _)
    have w4:=hg1.cell (a:=⟨g,8*k+4,none⟩) (hw k x hx 4 _ rfl) (by show some g≠some R;intro e;exact hgR (Option.some.inj e))
    have w5:=hg1.cell (a:=⟨g,8*k+4+1,none⟩) (hw k x hx 5 _ rfl) (by show some g≠some R;intro e;exact hgR (Option.some.inj e))
    have w6:=hg1.cell (a:=⟨g,8*k+4+2,none⟩) (hw k x hx 6 _ rfl) (by show some g≠some R;intro e;exact hgR (Option.some.inj e))
    have HG1:=kz hg1
    clear hg1
    have HE:=kz (show refV ws k eb el ec=⟨x.b,x.l,x.c,5⟩ by simp only [refV,hx])
    have hpos:(0:Int) < ((ws.length - k:Nat):Int):=by omega
    have hpos2:0 < ws.length - k:=by omega
    obtain ⟨m,hm⟩:∃ m,m=ws.length - k:=⟨_,rfl⟩
    rw [← hm] at c0 hpos hpos2
    have HB:=kz hb
    have HA:=kz ha
    have HC:=kz hc
    clear hb ha hc hv hx hw hm hk
    go_wp2_with fail
    go_end0
    have hz:(((W.setCell ⟨R,2,none⟩ (.pointer (some ⟨W.heap.size,0,none⟩))).setCell ⟨R,2,none⟩ (.pointer (some ⟨W.heap.size+1,0,none⟩))).alloc (.cells (rfCells ⟨eb,el,ec,21⟩) 80)).heap.size=W.heap.size+1:=by simp
    have hg:W.grownBy ((((W.setCell ⟨R,2,none⟩ (.pointer (some ⟨W.heap.size,0,none⟩))).setCell ⟨R,2,none⟩ (.pointer (some ⟨W.heap.size+1,0,none⟩))).alloc (.cells (rfCells ⟨eb,el,ec,21⟩) 80)).alloc (.cells (rfCells ⟨x.b,x.l,x.c,5⟩) 80)) (some R) :=
      grown_trans' (grown_trans' (grown_trans' (grown_set' W R 2 _) (grown_set' _ R 2 _)) (World.grownBy_alloc _ _ _)) (World.grownBy_alloc _ _ _)
    have hF:=Blk.new (((W.setCell ⟨R,2,none⟩ (.pointer (some ⟨W.heap.size,0,none⟩))).setCell ⟨R,2,none⟩ (.pointer (some ⟨W.heap.size+1,0,none⟩))).alloc (.cells (rfCells ⟨eb,el,ec,21⟩) 80)) (rfCells ⟨x.b,x.l,x.c,5⟩) 80
    rw [hz] at hF
    refine ⟨⟨_,rfl⟩, ?_,hg⟩
    rw [oz HE]
    exact (oz H).upd hg hkn _ c (.pointer (some ⟨W.heap.size+1,0,none⟩)) (((((oz HB).set 2 _).set 2 _).alloc _).alloc _) (fun _ =>rfl) (oz HC) ⟨W.heap.size+1,rfl,Nat.lt_succ_of_lt hRl,hF⟩
theorem RdAt.alloc {W:World} {R Tx g:Nat} {ws:List W8} {k:Nat} {bad:Option Rf} (h:RdAt W R Tx g ws k bad) (o:Obj):RdAt (W.alloc o) R Tx g ws k bad:=by
  obtain ⟨a,c,v,hb,ha,hc,hv⟩:=h.blk
  exact h.upd (World.grownBy_alloc W o _) h.kn a c v (hb.alloc o) ha hc (hv.kept (World.grownBy_alloc W o none) (fun F x _ =>by simp))
theorem EndAt.kept {W W':World} {Tx:Nat} {eb el ec:Int} {row:Option Nat} (h:EndAt W Tx eb el ec) (hg:W.grownBy W' row) (hne:some Tx≠row):EndAt W' Tx eb el ec:=⟨hg.cell h.c0 hne,hg.cell h.c1 hne,hg.cell h.c2 hne⟩
def wV (x:W8):Value := .agg #[.int .i64 x.k,.string x.S,.int .i32 x.r,.int .i64 x.n,.int .i64 x.b,.int .i64 x.l,.int .i64 x.c,.int .i64 x.e]
theorem box8 {W:World} {N:Nat} {a0 a1 a2 a3 a4 a5 a6 a7:Value} {ty:TypeId} (h:Blk W N #[a0,a1,a2,a3,a4,a5,a6,a7] ty) (v0 v1 v2 v3 v4 v5 v6 v7:Value):Blk ((((((((W.setCell ⟨N,0,none⟩ v0).setCell ⟨N,1,none⟩ v1).setCell ⟨N,2,none⟩ v2).setCell ⟨N,3,none⟩ v3).setCell ⟨N,4,none⟩ v4).setCell ⟨N,5,none⟩ v5).setCell ⟨N,6,none⟩ v6).setCell ⟨N,7,none⟩ v7) N #[v0,v1,v2,v3,v4,v5,v6,v7] ty:=by
  have h0:Blk (_:World) N #[v0,a1,a2,a3,a4,a5,a6,a7] ty:=h.set 0 v0
  have h1:Blk (_:World) N #[v0,v1,a2,a3,a4,a5,a6,a7] ty:=h0.set 1 v1
  have h2:Blk (_:World) N #[v0,v1,v2,a3,a4,a5,a6,a7] ty:=h1.set 2 v2
  have h3:Blk (_:World) N #[v0,v1,v2,v3,a4,a5,a6,a7] ty:=h2.set 3 v3
  have h4:Blk (_:World) N #[v0,v1,v2,v3,v4,a5,a6,a7] ty:=h3.set 4 v4
  have h5:Blk (_:World) N #[v0,v1,v2,v3,v4,v5,a6,a7] ty:=h4.set 5 v5
  have h6:Blk (_:World) N #[v0,v1,v2,v3,v4,v5,v6,a7] ty:=h5.set 6 v6
  have h7:Blk (_:World) N #[v0,v1,v2,v3,v4,v5,v6,v7] ty:=h6.set 7 v7
  exact h7
theorem grown8 (W:World) (N:Nat) (v0 v1 v2 v3 v4 v5 v6 v7:Value):W.grownBy ((((((((W.setCell ⟨N,0,none⟩ v0).setCell ⟨N,1,none⟩ v1).setCell ⟨N,2,none⟩ v2).setCell ⟨N,3,none⟩ v3).setCell ⟨N,4,none⟩ v4).setCell ⟨N,5,none⟩ v5).setCell ⟨N,6,none⟩ v6).setCell ⟨N,7,none⟩ v7) (some N) :=
  grown_trans' (grown_trans' (grown_trans' (grown_trans' (grown_trans' (grown_trans' (grown_trans' (grown_set' W N 0 v0) (grown_set' _ N 1 v1)) (grown_set' _ N 2 v2)) (grown_set' _ N 3 v3)) (grown_set' _ N 4 v4)) (grown_set' _ N 5 v5)) (grown_set' _ N 6 v6)) (grown_set' _ N 7 v7)
theorem RdAt.far {W W':World} {R Tx g N:Nat} {ws:List W8} {k:Nat} {bad:Option Rf} (h:RdAt W R Tx g ws k bad) (hg:W.grownBy W' (some N)) (hR:R≠N) (hgN:∀ (j:Nat) (x:W8),ws[j]?=some x→g≠N) (hF:∀ F x,Blk W F (rfCells x) 80→F≠N):RdAt W' R Tx g ws k bad:=by
  obtain ⟨a,c,v,hb,ha,hc,hv⟩:=h.blk
  refine ⟨h.kn,h.nmax,⟨a,c,v,hb.kept hg (fun e =>hR (Option.some.inj e)),ha,hc,hv.kept hg (fun F x hx e =>hF F x hx (Option.some.inj e))⟩,fun j x hx i u hu =>hg.cell (h.words j x hx i u hu) (fun e =>hgN j x hx (Option.some.inj e)),h.gR⟩
theorem RdAt.glt {W:World} {R Tx g:Nat} {ws:List W8} {k:Nat} {bad:Option Rf} (h:RdAt W R Tx g ws k bad)   : ∀ (j:Nat) (x:W8),ws[j]?=some x→g < W.heap.size:=fun j x hx =>cell_lt (h.words j x hx 0 _ rfl)
theorem blk_types {W:World} {B:Nat} {cs cs':Array Value} {t t':TypeId} (h:Blk W B cs t) (h':Blk W B cs' t'):t=t':=by
  have:=h.symm.trans h'
  injection this with e
  injection e
def zeroW:W8:=⟨0,⟨#[]⟩,0,0,0,0,0,0⟩
structure Tk where
  x:W8
  k:Nat
  bad:Option Rf
def takeV (ws:List W8) (k:Nat) (bad:Option Rf) (eb el ec kind:Int):Tk:=match seesB ws k bad kind,ws[k]? with
  | true,some x =>⟨x,k+1,bad⟩
  | _,_ =>⟨zeroW,k,some (refV ws k eb el ec)⟩
set_option maxRecDepth 100000 in
set_option maxHeartbeats 4000000 in
theorem take_any (R Tx g:Nat) (ws:List W8) (k:Nat) (bad:Option Rf) (eb el ec kind:Int) (W:World) (h:RdAt W R Tx g ws k bad) (hE:EndAt W Tx eb el ec) :
    Calls Tryz.prog 64 #[.pointer (some ⟨R,0,none⟩),.int .i64 kind] W fun e w' =>e=.returned (wV (takeV ws k bad eb el ec kind).x)∧RdAt w' R Tx g ws (takeV ws k bad eb el ec kind).k (takeV ws k bad eb el ec kind).bad∧W.grownBy w' (some R):=by
  obtain ⟨Z,hZ⟩:∃ Z,Z=Obj.cells #[.int .i64 0,.string ⟨#[]⟩,.int .i32 0,.int .i64 0,.int .i64 0,.int .i64 0,.int .i64 0,.int .i64 0] 147:=⟨_,rfl⟩
  have h2:=h.alloc Z
  have hE2:=hE.kept (World.grownBy_alloc W Z none) (by simp)
  have hgZ:=World.grownBy_alloc W Z (some R)
  have hbz:Blk (W.alloc Z) W.heap.size #[.int .i64 0,.string ⟨#[]⟩,.int .i32 0,.int .i64 0,.int .i64 0,.int .i64 0,.int .i64 0,.int .i64 0] 147:=by rw [hZ];exact Blk.new W _ _
  have hszW:W.heap.size < (W.alloc Z).heap.size:=by simp
  have hRW:R < W.heap.size:=by obtain ⟨a,c,v,hb,_⟩:=h.blk;exact hb.lt
  have H:=kz h2
  have HGZ:=kz hgZ
  have HS:=kz (sees_any R Tx g ws k bad kind _ h2)
  have HF:=kz (refuse_any R Tx g ws k bad eb el ec _ h2 hE2)
  subst hZ
  go_enter Tryz.func64,Tryz.ntmps64
  cases hs:seesB ws k bad kind with
  | false =>
    rw [hs] at HS
    have HT:=kz (show takeV ws k bad eb el ec kind=⟨zeroW,k,some (refV ws k eb el ec)⟩ by unfold takeV;rw [hs])
    clear hE hs h2 hE2 hgZ
    go_wp2_with fail
    generalize W.alloc (.cells #[.int .i64 0,.string ⟨#[]⟩,.int .i32 0,.int .i64 0,.int .i64 0,.int .i64 0,.int .i64 0,.int .i64 0] 147)=WZ at *
    refine (oz HS).mono ?_
    rintro e w1 ⟨rfl,hw1⟩
    subst hw1
    go_wp2_with fail
    refine (oz HF).mono ?_
    rintro e w2 ⟨⟨r,rfl⟩,hR,hg⟩
    have hb2:=hbz.kept hg (by simp;omega)
    have HR:=kz hR
    have HG:=kz (grown_trans' (oz HGZ) hg)
    have HB2:=kz hb2
    have hW2:W.heap.size < w2.heap.size:=hb2.lt
    have k0:=hb2.cell 0
    have f0:=hb2.frozen 0
    have k1:=hb2.cell 1
    have f1:=hb2.frozen 1
    have k2:=hb2.cell 2
    have f2:=hb2.frozen 2
    have k3:=hb2.cell 3
    have f3:=hb2.frozen 3
    have k4:=hb2.cell 4
    have f4:=hb2.frozen 4
    have k5:=hb2.cell 5
    have f5:=hb2.frozen 5
    have k6:=hb2.cell 6
    have f6:=hb2.frozen 6
    have k7:=hb2.cell 7
    have f7:=hb2.frozen 7
    obtain ⟨N,hN⟩:∃ N,N=W.heap.size:=⟨_,rfl⟩
    rw [← hN] at HB2 k0 k1 k2 k3 k4 k5 k6 k7 f0 f1 f2 f3 f4 f5 f6 f7 ⊢
    have hb8:=box8 (oz HB2) (.int .i64 0) (.string ⟨#[]⟩) (.int .i32 0) (.int .i64 0) (.int .i64 0) (.int .i64 0) (.int .i64 0) (.int .i64 0)
    have r0:=hb8.cell 0
    have r1:=hb8.cell 1
    have r2:=hb8.cell 2
    have r3:=hb8.cell 3
    have r4:=hb8.cell 4
    have r5:=hb8.cell 5
    have r6:=hb8.cell 6
    have r7:=hb8.cell 7
    have hglt:=h.glt
    have HFAR:Hz (RdAt ((((((((w2.setCell ⟨N,0,none⟩ (.int .i64 0)).setCell ⟨N,1,none⟩ (.string ⟨#[]⟩)).setCell ⟨N,2,none⟩ (.int .i32 0)).setCell ⟨N,3,none⟩ (.int .i64 0)).setCell ⟨N,4,none⟩ (.int .i64 0)).setCell ⟨N,5,none⟩ (.int .i64 0)).setCell ⟨N,6,none⟩ (.int .i64 0)).setCell ⟨N,7,none⟩ (.int .i64 0)) R Tx g ws k (some (refV ws k eb el ec))):=kz (hR.far (grown8 w2 N _ _ _ _ _ _ _ _) (by omega) (fun j x hx =>by have:=hglt j x hx;omega) (fun F x hx e =>by subst e;have:=blk_types hx (oz HB2);revert this;decide))
    have HGG:Hz (W.grownBy ((((((((w2.setCell ⟨N,0,none⟩ (.int .i64 0)).setCell ⟨N,1,none⟩ (.string ⟨#[]⟩)).setCell ⟨N,2,none⟩ (.int .i32 0)).setCell ⟨N,3,none⟩ (.int .i64 0)).setCell ⟨N,4,none⟩ (.int .i64 0)).setCell ⟨N,5,none⟩ (.int .i64 0)).setCell ⟨N,6,none⟩ (.int .i64 0)).setCell ⟨N,7,none⟩ (.int .i64 0)) (some R)):=kz (by
      have q:=grown8 w2 N (.int .i64 0) (.string ⟨#[]⟩) (.int .i32 0) (.int .i64 0) (.int .i64 0) (.int .i64 0) (.int .i64 0) (.int .i64 0)
      exact ⟨q.os.trans (oz HG).os,q.tape.trans (oz HG).tape,q.output.trans (oz HG).output,Nat.le_trans (oz HG).size q.size,fun i hi hn =>(q.block i (by have:=(oz HG).size;omega) (fun e =>by injection e;omega)).trans ((oz HG).block i hi hn)⟩)
    clear hR hg HF HS H hbz hb2 hb8 hN hglt h
    go_wp2_with fail
    rw [oz HT]
    exact bodyPost_ret (v:=wV zeroW) (by simp [results,Tryz.results64,go_sem,r0,r1,r2,r3,r4,r5,r6,r7,wV,zeroW]) rfl ⟨rfl,oz HFAR,oz HGG⟩
  | true =>
    rw [hs] at HS
    obtain ⟨x,hx,hbn⟩:∃ x,ws[k]?=some x∧bad=none:=by
      cases bad with
      | some y =>simp [seesB] at hs
      | none =>
        cases hx:ws[k]? with
        | none =>simp [seesB,hx] at hs
        | some x =>exact ⟨x,rfl,rfl⟩
    subst hbn
    have HT:=kz (show takeV ws k none eb el ec kind=⟨x,k+1,none⟩ by unfold takeV;rw [hs,hx])
    have hk:=(List.getElem?_eq_some_iff.1 hx).1
    obtain ⟨a,c,v,hb,ha,hc,hv⟩:=h2.blk
    obtain rfl:=ha hk
    have hw:=h2.words
    have w0:=hw.first hx
    have w1:=hw k x hx 1 _ rfl
    have w2:=hw k x hx 2 _ rfl
    have w3:=hw k x hx 3 _ rfl
    have w4:=hw k x hx 4 _ rfl
    have w5:=hw k x hx 5 _ rfl
    have w6:=hw k x hx 6 _ rfl
    have w7:=hw k x hx 7 _ rfl
    have c0:=hb.cell 0
    have f0:=hb.frozen 0
    obtain ⟨m,hm⟩:∃ m,m=ws.length - (k+1):=⟨_,rfl⟩
    have hm1:ws.length - k=m+1:=by omega
    rw [hm1] at c0 hc
    have HB:=kz hb
    have HM:=kz (And.intro hm hm1)
    have hcm:m+1≤c:=hc
    have HK:=kz hk
    have HX:=kz hx
    have HV:=kz hv
    clear hE hs hE2 hgZ hw hx hm hm1 hb ha hc hv hk HF
    go_wp2_with fail
    generalize W.alloc (.cells #[.int .i64 0,.string ⟨#[]⟩,.int .i32 0,.int .i64 0,.int .i64 0,.int .i64 0,.int .i64 0,.int .i64 0] 147)=WZ at *
    refine (oz HS).mono ?_
    rintro e w1 ⟨rfl,hw1⟩
    rw [hw1]
    clear hw1
    have hbW:=oz HB
    rw [(oz HM).2] at hbW
    have d0:=(hbW.alloc (.cells #[.int .i64 x.k,.string x.S,.int .i32 x.r,.int .i64 x.n,.int .i64 x.b,.int .i64 x.l,.int .i64 x.c,.int .i64 x.e] 147)).cell 0
    have g0:=(hbW.alloc (.cells #[.int .i64 x.k,.string x.S,.int .i32 x.r,.int .i64 x.n,.int .i64 x.b,.int .i64 x.l,.int .i64 x.c,.int .i64 x.e] 147)).frozen 0
    obtain ⟨N,hN⟩:∃ N,N=W.heap.size:=⟨_,rfl⟩
    rw [← hN] at hbz
    rw [← hN]
    have HBZ:=kz hbz
    have hRN:R < N:=by omega
    have hglt:∀ (j:Nat) (y:W8),ws[j]?=some y→g < N:=fun j y hy =>by have:=h.glt j y hy;omega
    have hNZ:N < WZ.heap.size:=hbz.lt
    have HN:=kz hN
    clear hbz h h2 hRW hN HS
    by_cases hc1:c=1
    · obtain rfl:m=0:=by omega
      subst hc1
      have hg3:WZ.grownBy ((WZ.alloc (.cells #[.int .i64 x.k,.string x.S,.int .i32 x.r,.int .i64 x.n,.int .i64 x.b,.int .i64 x.l,.int .i64 x.c,.int .i64 x.e] 147)).setCell ⟨R,0,none⟩ (.slice (some ⟨g,8*k,none⟩) 0 0)) (some R):=grown_trans' (World.grownBy_alloc _ _ _) (grown_set' _ R 0 _)
      have hbN:Blk ((WZ.alloc (.cells #[.int .i64 x.k,.string x.S,.int .i32 x.r,.int .i64 x.n,.int .i64 x.b,.int .i64 x.l,.int .i64 x.c,.int .i64 x.e] 147)).setCell ⟨R,0,none⟩ (.slice (some ⟨g,8*k,none⟩) 0 0)) N #[.int .i64 0,.string ⟨#[]⟩,.int .i32 0,.int .i64 0,.int .i64 0,.int .i64 0,.int .i64 0,.int .i64 0] 147:=(oz HBZ).kept hg3 (fun e =>by have:=Option.some.inj e;omega)
      have hbR:Blk ((WZ.alloc (.cells #[.int .i64 x.k,.string x.S,.int .i32 x.r,.int .i64 x.n,.int .i64 x.b,.int .i64 x.l,.int .i64 x.c,.int .i64 x.e] 147)).setCell ⟨R,0,none⟩ (.slice (some ⟨g,8*k,none⟩) 0 0)) R #[.slice (some ⟨g,8*k,none⟩) 0 0,.pointer (some ⟨Tx,0,none⟩),v] 87:=(hbW.alloc _).set 0 _
      have k0:=hbN.cell 0
      have q0:=hbN.frozen 0
      have k1:=hbN.cell 1
      have q1:=hbN.frozen 1
      have k2:=hbN.cell 2
      have q2:=hbN.frozen 2
      have k3:=hbN.cell 3
      have q3:=hbN.frozen 3
      have k4:=hbN.cell 4
      have q4:=hbN.frozen 4
      have k5:=hbN.cell 5
      have q5:=hbN.frozen 5
      have k6:=hbN.cell 6
      have q6:=hbN.frozen 6
      have k7:=hbN.cell 7
      have q7:=hbN.frozen 7
      have hb8:=box8 hbN (.int .i64 x.k) (.string x.S) (.int .i32 x.r) (.int .i64 x.n) (.int .i64 x.b) (.int .i64 x.l) (.int .i64 x.c) (.int .i64 x.e)
      have r0:=hb8.cell 0
      have r1:=hb8.cell 1
      have r2:=hb8.cell 2
      have r3:=hb8.cell 3
      have r4:=hb8.cell 4
      have r5:=hb8.cell 5
      have r6:=hb8.cell 6
      have r7:=hb8.cell 7
      have hR3:RdAt ((WZ.alloc (.cells #[.int .i64 x.k,.string x.S,.int .i32 x.r,.int .i64 x.n,.int .i64 x.b,.int .i64 x.l,.int .i64 x.c,.int .i64 x.e] 147)).setCell ⟨R,0,none⟩ (.slice (some ⟨g,8*k,none⟩) 0 0)) R Tx g ws (k+1) none:=(oz H).upd hg3 (oz HK) (some ⟨g,8*k,none⟩) 0 v (by rw [← (oz HM).1];exact hbR) (fun h9 =>by have:=(oz HM).1;omega) (by rw [← (oz HM).1];omega) (oz HV)
      have HFAR:Hz (RdAt ((((((((((WZ.alloc (.cells #[.int .i64 x.k,.string x.S,.int .i32 x.r,.int .i64 x.n,.int .i64 x.b,.int .i64 x.l,.int .i64 x.c,.int .i64 x.e] 147)).setCell ⟨R,0,none⟩ (.slice (some ⟨g,8*k,none⟩) 0 0)).setCell ⟨N,0,none⟩ (.int .i64 x.k)).setCell ⟨N,1,none⟩ (.string x.S)).setCell ⟨N,2,none⟩ (.int .i32 x.r)).setCell ⟨N,3,none⟩ (.int .i64 x.n)).setCell ⟨N,4,none⟩ (.int .i64 x.b)).setCell ⟨N,5,none⟩ (.int .i64 x.l)).setCell ⟨N,6,none⟩ (.int .i64 x.c)).setCell ⟨N,7,none⟩ (.int .i64 x.e)) R Tx g ws (k+1) none):=kz (hR3.far (grown8 _ N _ _ _ _ _ _ _ _) (by omega) (fun j y hy =>by have:=hglt j y hy;omega) (fun F y hy e =>by subst e;have:=blk_types hy hbN;revert this;decide))
      have HGG:Hz (W.grownBy ((((((((((WZ.alloc (.cells #[.int .i64 x.k,.string x.S,.int .i32 x.r,.int .i64 x.n,.int .i64 x.b,.int .i64 x.l,.int .i64 x.c,.int .i64 x.e] 147)).setCell ⟨R,0,none⟩ (.slice (some ⟨g,8*k,none⟩) 0 0)).setCell ⟨N,0,none⟩ (.int .i64 x.k)).setCell ⟨N,1,none⟩ (.string x.S)).setCell ⟨N,2,none⟩ (.int .i32 x.r)).setCell ⟨N,3,none⟩ (.int .i64 x.n)).setCell ⟨N,4,none⟩ (.int .i64 x.b)).setCell ⟨N,5,none⟩ (.int .i64 x.l)).setCell ⟨N,6,none⟩ (.int .i64 x.c)).setCell ⟨N,7,none⟩ (.int .i64 x.e)) (some R)):=kz (by
        have q:=grown8 ((WZ.alloc (.cells #[.int .i64 x.k,.string x.S,.int .i32 x.r,.int .i64 x.n,.int .i64 x.b,.int .i64 x.l,.int .i64 x.c,.int .i64 x.e] 147)).setCell ⟨R,0,none⟩ (.slice (some ⟨g,8*k,none⟩) 0 0)) N (.int .i64 x.k) (.string x.S) (.int .i32 x.r) (.int .i64 x.n) (.int .i64 x.b) (.int .i64 x.l) (.int .i64 x.c) (.int .i64 x.e)
        have q0:=grown_trans' (oz HGZ) hg3
        have hNN:=oz HN
        exact ⟨q.os.trans q0.os,q.tape.trans q0.tape,q.output.trans q0.output,Nat.le_trans q0.size q.size,fun i hi hn =>(q.block i (by have:=q0.size;omega) (fun e =>by injection e;omega)).trans (q0.block i hi hn)⟩)
      clear hg3 hbN hbR hb8 hR3
      go_wp2_with fail
      rw [oz HT]
      exact bodyPost_ret (v:=wV x) (by simp [results,Tryz.results64,go_sem,r0,r1,r2,r3,r4,r5,r6,r7,wV]) rfl ⟨rfl,oz HFAR,oz HGG⟩
    · obtain ⟨c2,rfl⟩:∃ c2,c=c2+2:=⟨c - 2,by omega⟩
      have hg3:WZ.grownBy ((WZ.alloc (.cells #[.int .i64 x.k,.string x.S,.int .i32 x.r,.int .i64 x.n,.int .i64 x.b,.int .i64 x.l,.int .i64 x.c,.int .i64 x.e] 147)).setCell ⟨R,0,none⟩ (.slice (some ⟨g,8*k+8,none⟩) m (c2+1))) (some R):=grown_trans' (World.grownBy_alloc _ _ _) (grown_set' _ R 0 _)
      have hbN:Blk ((WZ.alloc (.cells #[.int .i64 x.k,.string x.S,.int .i32 x.r,.int .i64 x.n,.int .i64 x.b,.int .i64 x.l,.int .i64 x.c,.int .i64 x.e] 147)).setCell ⟨R,0,none⟩ (.slice (some ⟨g,8*k+8,none⟩) m (c2+1))) N #[.int .i64 0,.string ⟨#[]⟩,.int .i32 0,.int .i64 0,.int .i64 0,.int .i64 0,.int .i64 0,.int .i64 0] 147:=(oz HBZ).kept hg3 (fun e =>by have:=Option.some.inj e;omega)
      have hbR:Blk ((WZ.alloc (.cells #[.int .i64 x.k,.string x.S,.int .i32 x.r,.int .i64 x.n,.int .i64 x.b,.int .i64 x.l,.int .i64 x.c,.int .i64 x.e] 147)).setCell ⟨R,0,none⟩ (.slice (some ⟨g,8*k+8,none⟩) m (c2+1))) R #[.slice (some ⟨g,8*k+8,none⟩) m (c2+1),.pointer (some ⟨Tx,0,none⟩),v] 87:=(hbW.alloc _).set 0 _
      have k0:=hbN.cell 0
      have q0:=hbN.frozen 0
      have k1:=hbN.cell 1
      have q1:=hbN.frozen 1
      have k2:=hbN.cell 2
      have q2:=hbN.frozen 2
      have k3:=hbN.cell 3
      have q3:=hbN.frozen 3
      have k4:=hbN.cell 4
      have q4:=hbN.frozen 4
      have k5:=hbN.cell 5
      have q5:=hbN.frozen 5
      have k6:=hbN.cell 6
      have q6:=hbN.frozen 6
      have k7:=hbN.cell 7
      have q7:=hbN.frozen 7
      have hb8:=box8 hbN (.int .i64 x.k) (.string x.S) (.int .i32 x.r) (.int .i64 x.n) (.int .i64 x.b) (.int .i64 x.l) (.int .i64 x.c) (.int .i64 x.e)
      have r0:=hb8.cell 0
      have r1:=hb8.cell 1
      have r2:=hb8.cell 2
      have r3:=hb8.cell 3
      have r4:=hb8.cell 4
      have r5:=hb8.cell 5
      have r6:=hb8.cell 6
      have r7:=hb8.cell 7
      have hR3:RdAt ((WZ.alloc (.cells #[.int .i64 x.k,.string x.S,.int .i32 x.r,.int .i64 x.n,.int .i64 x.b,.int .i64 x.l,.int .i64 x.c,.int .i64 x.e] 147)).setCell ⟨R,0,none⟩ (.slice (some ⟨g,8*k+8,none⟩) m (c2+1))) R Tx g ws (k+1) none:=(oz H).upd hg3 (oz HK) (some ⟨g,8*k+8,none⟩) (c2+1) v (by rw [← (oz HM).1];exact hbR) (fun _ =>by congr 2) (by rw [← (oz HM).1];omega) (oz HV)
      have HFAR:Hz (RdAt ((((((((((WZ.alloc (.cells #[.int .i64 x.k,.string x.S,.int .i32 x.r,.int .i64 x.n,.int .i64 x.b,.int .i64 x.l,.int .i64 x.c,.int .i64 x.e] 147)).setCell ⟨R,0,none⟩ (.slice (some ⟨g,8*k+8,none⟩) m (c2+1))).setCell ⟨N,0,none⟩ (.int .i64 x.k)).setCell ⟨N,1,none⟩ (.string x.S)).setCell ⟨N,2,none⟩ (.int .i32 x.r)).setCell ⟨N,3,none⟩ (.int .i64 x.n)).setCell ⟨N,4,none⟩ (.int .i64 x.b)).setCell ⟨N,5,none⟩ (.int .i64 x.l)).setCell ⟨N,6,none⟩ (.int .i64 x.c)).setCell ⟨N,7,none⟩ (.int .i64 x.e)) R Tx g ws (k+1) none):=kz (hR3.far (grown8 _ N _ _ _ _ _ _ _ _) (by omega) (fun j y hy =>by have:=hglt j y hy;omega) (fun F y hy e =>by subst e;have:=blk_types hy hbN;revert this;decide))
      have HGG:Hz (W.grownBy ((((((((((WZ.alloc (.cells #[.int .i64 x.k,.string x.S,.int .i32 x.r,.int .i64 x.n,.int .i64 x.b,.int .i64 x.l,.int .i64 x.c,.int .i64 x.e] 147)).setCell ⟨R,0,none⟩ (.slice (some ⟨g,8*k+8,none⟩) m (c2+1))).setCell ⟨N,0,none⟩ (.int .i64 x.k)).setCell ⟨N,1,none⟩ (.string x.S)).setCell ⟨N,2,none⟩ (.int .i32 x.r)).setCell ⟨N,3,none⟩ (.int .i64 x.n)).setCell ⟨N,4,none⟩ (.int .i64 x.b)).setCell ⟨N,5,none⟩ (.int .i64 x.l)).setCell ⟨N,6,none⟩ (.int .i64 x.c)).setCell ⟨N,7,none⟩ (.int .i64 x.e)) (some R)):=kz (by
        have q:=grown8 ((WZ.alloc (.cells #[.int .i64 x.k,.string x.S,.int .i32 x.r,.int .i64 x.n,.int .i64 x.b,.int .i64 x.l,.int .i64 x.c,.int .i64 x.e] 147)).setCell ⟨R,0,none⟩ (.slice (some ⟨g,8*k+8,none⟩) m (c2+1))) N (.int .i64 x.k) (.string x.S) (.int .i32 x.r) (.int .i64 x.n) (.int .i64 x.b) (.int .i64 x.l) (.int .i64 x.c) (.int .i64 x.e)
        have q0:=grown_trans' (oz HGZ) hg3
        have hNN:=oz HN
        exact ⟨q.os.trans q0.os,q.tape.trans q0.tape,q.output.trans q0.output,Nat.le_trans q0.size q.size,fun i hi hn =>(q.block i (by have:=q0.size;omega) (fun e =>by injection e;omega)).trans (q0.block i hi hn)⟩)
      clear hg3 hbN hbR hb8 hR3
      go_wp2_with fail
      rw [oz HT]
      exact bodyPost_ret (v:=wV x) (by simp [results,Tryz.results64,go_sem,r0,r1,r2,r3,r4,r5,r6,r7,wV]) rfl ⟨rfl,oz HFAR,oz HGG⟩
structure RdE (W:World) (R Tx g:Nat) (ws:List W8) (k:Nat) (bad:Option Rf) (eb el ec:Int):Prop where
  rd:RdAt W R Tx g ws k bad
  en:EndAt W Tx eb el ec
  ne:Tx≠R
theorem RdE.step {W W':World} {R Tx g:Nat} {ws:List W8} {k k2:Nat} {bad bad2:Option Rf} {eb el ec:Int} (h:RdE W R Tx g ws k bad eb el ec) (h2:RdAt W' R Tx g ws k2 bad2) (hg:W.grownBy W' (some R)):RdE W' R Tx g ws k2 bad2 eb el ec:=⟨h2,h.en.kept hg (fun e =>h.ne (Option.some.inj e)),h.ne⟩
theorem RdE.alloc {W:World} {R Tx g:Nat} {ws:List W8} {k:Nat} {bad:Option Rf} {eb el ec:Int} (h:RdE W R Tx g ws k bad eb el ec) (o:Obj):RdE (W.alloc o) R Tx g ws k bad eb el ec:=⟨h.rd.alloc o,h.en.kept (World.grownBy_alloc W o none) (by simp),h.ne⟩
theorem take_e (R Tx g:Nat) (ws:List W8) (k:Nat) (bad:Option Rf) (eb el ec kind:Int) (W:World) (h:RdE W R Tx g ws k bad eb el ec) :
    Calls Tryz.prog 64 #[.pointer (some ⟨R,0,none⟩),.int .i64 kind] W fun e w' =>e=.returned (wV (takeV ws k bad eb el ec kind).x)∧RdE w' R Tx g ws (takeV ws k bad eb el ec kind).k (takeV ws k bad eb el ec kind).bad eb el ec∧W.grownBy w' (some R) :=
  (take_any R Tx g ws k bad eb el ec kind W h.rd h.en).mono fun e w' ⟨h1,h2,h3⟩ =>⟨h1,h.step h2 h3,h3⟩
theorem field_r (a:Int) (b:ByteArray) (c d e f g h:Int) (w:World):(Instr.field 147 (.agg #[.int .i64 a,.string b,.int .i32 c,.int .i64 d,.int .i64 e,.int .i64 f,.int .i64 g,.int .i64 h]) 2).run Tryz.prog w=.ok (.int .i32 c) w:=by kernel_rfl
theorem span_fin {W w1:World} {R Tx g N:Nat} {ws:List W8} {k:Nat} {bad:Option Rf} {eb el ec:Int} {a b:Value} (h:RdE w1 R Tx g ws k bad eb el ec) (hg:W.grownBy w1 (some R)) (hb:Blk w1 N #[a,b] 73) (hN:N=W.heap.size) (hR:R < N) (hT:Tx < N) (hgl:∀ (j:Nat) (y:W8),ws[j]?=some y→g < N) (u v:Value) :
    RdE ((w1.setCell ⟨N,0,none⟩ u).setCell ⟨N,1,none⟩ v) R Tx g ws k bad eb el ec∧W.grownBy ((w1.setCell ⟨N,0,none⟩ u).setCell ⟨N,1,none⟩ v) (some R)∧Blk ((w1.setCell ⟨N,0,none⟩ u).setCell ⟨N,1,none⟩ v) N #[u,v] 73:=by
  have q:w1.grownBy ((w1.setCell ⟨N,0,none⟩ u).setCell ⟨N,1,none⟩ v) (some N):=grown_trans' (grown_set' w1 N 0 u) (grown_set' _ N 1 v)
  refine ⟨⟨h.rd.far q (by omega) (fun j y hy =>by have:=hgl j y hy;omega) (fun F y hy e =>by subst e;have:=blk_types hy hb;revert this;decide),h.en.kept q (fun e =>by have:=Option.some.inj e;omega),h.ne⟩,⟨q.os.trans hg.os,q.tape.trans hg.tape,q.output.trans hg.output,Nat.le_trans hg.size q.size,fun i hi hn =>(q.block i (by have:=hg.size;omega) (fun e =>by injection e;omega)).trans (hg.block i hi hn)⟩,(hb.set 0 u).set 1 v⟩
structure Sn where
  lo:Int
  hi:Int
  k:Nat
  bad:Option Rf
def spanV (ws:List W8) (k:Nat) (bad:Option Rf) (eb el ec:Int):Sn :=
  let a:=takeV ws k bad eb el ec 3
  if seesB ws a.k a.bad 9 then
    let b:=takeV ws a.k a.bad eb el ec 9
    let c:=takeV ws b.k b.bad eb el ec 3
    ⟨a.x.r,c.x.r,c.k,c.bad⟩
  else ⟨a.x.r,a.x.r,a.k,a.bad⟩
set_option maxRecDepth 100000 in
set_option maxHeartbeats 4000000 in
theorem span_any (R Tx g:Nat) (ws:List W8) (k:Nat) (bad:Option Rf) (eb el ec:Int) (W:World) (h:RdE W R Tx g ws k bad eb el ec) :
    Calls Tryz.prog 169 #[.pointer (some ⟨R,0,none⟩)] W fun e w' =>e=.returned (.agg #[.int .i32 (spanV ws k bad eb el ec).lo,.int .i32 (spanV ws k bad eb el ec).hi])∧RdE w' R Tx g ws (spanV ws k bad eb el ec).k (spanV ws k bad eb el ec).bad eb el ec∧W.grownBy w' (some R):=by
  have hRW:R < W.heap.size:=by obtain ⟨a,c,v,hb,_⟩:=h.rd.blk;exact hb.lt
  have hglt:=h.rd.glt
  have hTW:Tx < W.heap.size:=cell_lt h.en.c0
  have hz:=h.alloc (.cells #[.int .i32 0,.int .i32 0] 73)
  have hgz:=World.grownBy_alloc W (.cells #[.int .i32 0,.int .i32 0] 73) (some R)
  have hbz:=Blk.new W #[.int .i32 0,.int .i32 0] 73
  obtain ⟨N,hN⟩:∃ N,N=W.heap.size:=⟨_,rfl⟩
  have HN:=kz hN
  rw [← hN] at hbz
  have H:=kz (And.intro hz (And.intro hgz hbz))
  have hRN:R < N:=by omega
  have hTN:Tx < N:=by omega
  have HGL:Hz (∀ (j:Nat) (y:W8),ws[j]?=some y→g < N):=kz (fun j y hy =>by have:=hglt j y hy;omega)
  clear h hz hgz hbz hglt
  go_enter Tryz.func169,Tryz.ntmps169
  go_wp2_with fail
  generalize W.alloc (.cells #[.int .i32 0,.int .i32 0] 73)=WZ at *
  rw [← oz HN]
  clear hN
  refine (take_e R Tx g ws k bad eb el ec 3 WZ (oz H).1).mono ?_
  rintro e w1 ⟨rfl,hR1,hg1⟩
  have H1:=kz (And.intro hR1 (And.intro (grown_trans' (oz H).2.1 hg1) ((oz H).2.2.kept hg1 (fun e =>by have:=Option.some.inj e;omega))))
  have HSV:Hz (spanV ws k bad eb el ec=if seesB ws (takeV ws k bad eb el ec 3).k (takeV ws k bad eb el ec 3).bad 9 then ⟨(takeV ws k bad eb el ec 3).x.r,(takeV ws (takeV ws (takeV ws k bad eb el ec 3).k (takeV ws k bad eb el ec 3).bad eb el ec 9).k (takeV ws (takeV ws k bad eb el ec 3).k (takeV ws k bad eb el ec 3).bad eb el ec 9).bad eb el ec 3).x.r,(takeV ws (takeV ws (takeV ws k bad eb el ec 3).k (takeV ws k bad eb el ec 3).bad eb el ec 9).k (takeV ws (takeV ws k bad eb el ec 3).k (takeV ws k bad eb el ec 3).bad eb el ec 9).bad eb el ec 3).k,(takeV ws (takeV ws (takeV ws k bad eb el ec 3).k (takeV ws k bad eb el ec 3).bad eb el ec 9).k (takeV ws (takeV ws k bad eb el ec 3).k (takeV ws k bad eb el ec 3).bad eb el ec 9).bad eb el ec 3).bad⟩ else ⟨(takeV ws k bad eb el ec 3).x.r,(takeV ws k bad eb el ec 3).x.r,(takeV ws k bad eb el ec 3).k,(takeV ws k bad eb el ec 3).bad⟩):=kz rfl
  clear hR1 hg1 H
  generalize takeV ws k bad eb el ec 3=A at *
  obtain ⟨⟨ak,aS,ar,an,ab,al,ac,ae⟩,k1,bad1⟩:=A
  dsimp only at HSV H1
  unfold wV
  dsimp only
  have hf:=field_r ak aS ar an ab al ac ae
  have HS:=kz (sees_any R Tx g ws k1 bad1 9 w1 (oz H1).1.rd)
  cases hs:seesB ws k1 bad1 9 with
  | false =>
    rw [hs] at HS HSV
    have HSV2:Hz (spanV ws k bad eb el ec=⟨ar,ar,k1,bad1⟩):=kz ((oz HSV).trans rfl)
    clear hs HSV
    go_wp2_with fail
    refine (oz HS).mono ?_
    rintro e w2 ⟨rfl,hw2⟩
    rw [hw2]
    clear hw2 HS
    have hb1:=(oz H1).2.2
    have k0:=hb1.cell 0
    have q0:=hb1.frozen 0
    have k1':=hb1.cell 1
    have q1:=hb1.frozen 1
    have hfin:=span_fin (oz H1).1 (oz H1).2.1 hb1 (oz HN) hRN hTN (oz HGL) (.int .i32 ar) (.int .i32 ar)
    have r0:=hfin.2.2.cell 0
    have r1:=hfin.2.2.cell 1
    have HFIN:=kz (And.intro hfin.1 hfin.2.1)
    clear hfin hb1
    go_wp2_with fail
    rw [oz HSV2]
    exact bodyPost_ret (v := .agg #[.int .i32 ar,.int .i32 ar]) (by simp [results,Tryz.results169,go_sem,r0,r1]) rfl ⟨rfl,(oz HFIN).1,(oz HFIN).2⟩
  | true =>
    rw [hs] at HS HSV
    have HSV2:=kz ((oz HSV).trans (if_pos rfl))
    clear hs HSV
    go_wp2_with fail
    refine (oz HS).mono ?_
    rintro e w2 ⟨rfl,hw2⟩
    rw [hw2]
    clear hw2 HS
    go_wp2_with fail
    refine (take_e R Tx g ws k1 bad1 eb el ec 9 w1 (oz H1).1).mono ?_
    rintro e w3 ⟨rfl,hR3,hg3⟩
    have H3:=kz (And.intro hR3 (And.intro (grown_trans' (oz H1).2.1 hg3) ((oz H1).2.2.kept hg3 (fun e =>by have:=Option.some.inj e;omega))))
    clear hR3 hg3 H1
    generalize takeV ws k1 bad1 eb el ec 9=B9 at *
    obtain ⟨b9,k3,bad3⟩:=B9
    dsimp only at HSV2 H3
    dsimp only
    generalize wV b9=vb9
    go_wp2_with fail
    refine (take_e R Tx g ws k3 bad3 eb el ec 3 w3 (oz H3).1).mono ?_
    rintro e w4 ⟨rfl,hR4,hg4⟩
    have H4:=kz (And.intro hR4 (And.intro (grown_trans' (oz H3).2.1 hg4) ((oz H3).2.2.kept hg4 (fun e =>by have:=Option.some.inj e;omega))))
    clear hR4 hg4 H3
    generalize takeV ws k3 bad3 eb el ec 3=C3 at *
    obtain ⟨⟨ck,cS,cr,cn,cb,cl,cc,ce⟩,k4,bad4⟩:=C3
    dsimp only at HSV2 H4
    unfold wV
    dsimp only
    have hf2:=field_r ck cS cr cn cb cl cc ce
    have hb1:=(oz H4).2.2
    have k0:=hb1.cell 0
    have q0:=hb1.frozen 0
    have k1':=hb1.cell 1
    have q1:=hb1.frozen 1
    have hfin:=span_fin (oz H4).1 (oz H4).2.1 hb1 (oz HN) hRN hTN (oz HGL) (.int .i32 ar) (.int .i32 cr)
    have r0:=hfin.2.2.cell 0
    have r1:=hfin.2.2.cell 1
    have HFIN:=kz (And.intro hfin.1 hfin.2.1)
    clear hfin hb1
    go_wp2_with fail
    rw [oz HSV2]
    exact bodyPost_ret (v := .agg #[.int .i32 ar,.int .i32 cr]) (by simp [results,Tryz.results169,go_sem,r0,r1]) rfl ⟨rfl,(oz HFIN).1,(oz HFIN).2⟩
end Go.Proofs.YtmdgejgokoadlaaGreatDoor
