/- Texts of this claim, one behind the other. -/
import Derived.Test.YtmdgejgokoadlaaGreatDoorM19
import Derived.Deep.RegionHeld3
import Derived.Test.YtmdgejgokoadlaaGreatDoorM5
import Derived.Test.YtmdgejgokoadlaaGreatDoorM6
import Derived.Test.YtmdgejgokoadlaaGreatDoorM10
import Derived.Test.YtmdgejgokoadlaaGreatDoorM12
import Derived.Lib.AppendStr
import Derived.Laws.BytesArg
/- The reference's reader of rules: take. -/
namespace Go.Proofs.YtmdgejgokoadlaaGreatDoor
open Go.RowKit Go.Shelf
set_option linter.unusedVariables false
def z6:Array Value:=#[.int .i64 0,.string ⟨#[]⟩,.int .i32 0,.int .i64 0,.int .i64 0,.int .i64 0]
theorem zcR {W W1:World} {row:Option Nat} (h:W.grownBy W1 row) (N i:Nat) (v:Value) (hN:W.heap.size≤N):W.grownBy (W1.setCell ⟨N,i,none⟩ v) row:=by
 have q:=zad W1 N i v
 exact ⟨q.os.trans h.os,q.tape.trans h.tape,q.output.trans h.output,Nat.le_trans h.size q.size,fun j hj hn =>(q.block j (by have:=h.size;omega) (fun e =>by have:=Option.some.inj e;omega)).trans (h.block j hj hn)⟩
theorem box6 {W:World} {N:Nat} {a0 a1 a2 a3 a4 a5:Value} {ty:TypeId} (h:Blk W N #[a0,a1,a2,a3,a4,a5] ty) (v0 v1 v2 v3 v4 v5:Value):Blk ((((((W.setCell ⟨N,0,none⟩ v0).setCell ⟨N,1,none⟩ v1).setCell ⟨N,2,none⟩ v2).setCell ⟨N,3,none⟩ v3).setCell ⟨N,4,none⟩ v4).setCell ⟨N,5,none⟩ v5) N #[v0,v1,v2,v3,v4,v5] ty :=
 (((((h.set 0 v0).set 1 v1).set 2 v2).set 3 v3).set 4 v4).set 5 v5
theorem zbg {W:World} {R N:Nat} {cs:Array Value} {ty:TypeId} (h:Blk W R cs ty) (hne:R≠N) (v0 v1 v2 v3 v4 v5:Value):Blk ((((((W.setCell ⟨N,0,none⟩ v0).setCell ⟨N,1,none⟩ v1).setCell ⟨N,2,none⟩ v2).setCell ⟨N,3,none⟩ v3).setCell ⟨N,4,none⟩ v4).setCell ⟨N,5,none⟩ v5) R cs ty:=by
 have hq:∀ (V:World) (i:Nat) (v:Value),Blk V R cs ty→Blk (V.setCell ⟨N,i,none⟩ v) R cs ty:=fun V i v hb =>hb.kept (zad V N i v) (fun e =>hne (Option.some.inj e))
 exact hq _ _ _ (hq _ _ _ (hq _ _ _ (hq _ _ _ (hq _ _ _ (hq _ _ _ h)))))
theorem zby {W W1:World} {row:Option Nat} (h:W.grownBy W1 row) (N:Nat) (hN:W.heap.size≤N) (v0 v1 v2 v3 v4 v5:Value):W.grownBy ((((((W1.setCell ⟨N,0,none⟩ v0).setCell ⟨N,1,none⟩ v1).setCell ⟨N,2,none⟩ v2).setCell ⟨N,3,none⟩ v3).setCell ⟨N,4,none⟩ v4).setCell ⟨N,5,none⟩ v5) row :=
 zcR (zcR (zcR (zcR (zcR (zcR h N 0 v0 hN) N 1 v1 hN) N 2 v2 hN) N 3 v3 hN) N 4 v4 hN) N 5 v5 hN
theorem zif (a:Option Addr) (n c k k':Nat) (bi:Int) (vs:List Value):(zbm a n c k bi vs).setIfInBounds 1 (.int .i64 k')=zbm a n c k' bi vs:=rfl
theorem zig (a:Option Addr) (n c k:Nat) (bi bi':Int) (vs:List Value):(zbm a n c k bi vs).setIfInBounds 2 (.int .i64 bi')=zbm a n c k bi' vs:=rfl
theorem zhK {W V:World} {lo R g N:Nat} {a:Option Addr} {c:Nat} {ws:List W8} {k:Nat} {bi:Int} {vs:List Value} {ls:List Ln} {cs:Array Value} {ty:TypeId} (h1:Blk V N cs ty) (h2:RrAt V lo R g a c ws k bi vs ls) (h3:W.grownBy V (some R)):Blk V.drew N cs ty∧RrAt V.drew lo R g a c ws k bi vs ls∧W.grownBy V.drew (some R) :=
 ⟨h1,h2.below (Below.refl _ _).drew,h3.os,h3.tape,h3.output,h3.size,h3.block⟩
set_option maxRecDepth 100000 in
set_option maxHeartbeats 4000000 in
theorem zaE (lo R g:Nat) (a:Option Addr) (c:Nat) (ws:List W8) (k:Nat) (bi:Int) (bad:Option Rf) (eb el ec kind:Int) (vs:List Value) (ls:List Ln) (W:World) (h:RrAt W lo R g a c ws k bi vs ls) (hB:BadR ws k eb el ec bi bad) :
  Calls Tryz.prog 84 #[.pointer (some ⟨R,0,none⟩),.int .i64 kind] W fun e w' =>e=.returned (r6V (zaa ws k bad eb el ec kind).x)∧(∃ bi',BadR ws (zaa ws k bad eb el ec kind).k eb el ec bi' (zaa ws k bad eb el ec kind).bad∧RrAt w' lo R g a c ws (zaa ws k bad eb el ec kind).k bi' vs ls)∧W.grownBy w' (some R):=by
 have hmx:Tryz.prog.follows .mixedOrders=true:=by kernel_rfl
 have hB0:Below W.heap.size W (W.alloc (.cells z6 123)):=(Below.refl _ W).alloc (Nat.le_refl _) _
 have h2:=h.below hB0
 have HZ:=kz (Blk.new W z6 123)
 have hRW:R < W.heap.size:=h.blk.lt
 have HS:=kz (zb3 lo R g a c ws k bi bad eb el ec kind vs ls _ h2 hB)
 have HB0:=kz hB0
 have H:=kz h
 have HBR:=kz hB
 clear h2 hB0 h hB
 unfold z6 at HS HZ HB0
 go_enter Tryz.func84,Tryz.ntmps84
 cases hs:zaJ ws k bad kind with
 | false =>
  rw [hs] at HS
  have HT:=kz (show zaa ws k bad eb el ec kind=⟨zgt,k,some (zeA ws k eb el ec)⟩ by unfold zaa;rw [hs])
  clear hs
  go_wp2_with fail
  generalize W.alloc _=w0 at *
  refine (oz HS).mono ?_
  rintro e w1 ⟨rfl,hb⟩
  have HB1:=kz ((oz HB0).trans (hb.mono (oz HB0).size))
  have hz1:=(oz HZ).below hb (oz HZ).lt
  have hR1:=(oz H).blk.below (oz HB1) hRW
  have c1:w1.cell? ⟨R,1,none⟩=some (.int .i64 k):=hR1.cell 1
  have c2:w1.cell? ⟨R,2,none⟩=some (.int .i64 bi):=hR1.cell 2
  have f2:=hR1.frozen 2
  have hne:R≠W.heap.size:=Nat.ne_of_lt hRW
  have HZ1:=kz hz1
  have HR1:=kz hR1
  clear hb hz1 hR1 HS HZ HB0
  cases bad with
  | none =>
   obtain rfl:bi = -1:=oz HBR
   have k0:=(oz HZ1).cell 0
   have g0:=(oz HZ1).frozen 0
   have k1:=(oz HZ1).cell 1
   have g1:=(oz HZ1).frozen 1
   have k2:=(oz HZ1).cell 2
   have g2:=(oz HZ1).frozen 2
   have k3:=(oz HZ1).cell 3
   have g3:=(oz HZ1).frozen 3
   have k4:=(oz HZ1).cell 4
   have g4:=(oz HZ1).frozen 4
   have k5:=(oz HZ1).cell 5
   have g5:=(oz HZ1).frozen 5
   have HFIN:Hz (∀ w9,w9=((((((w1.setCell ⟨R,2,none⟩ (.int .i64 k)).setCell ⟨W.heap.size,0,none⟩ (.int .i64 0)).setCell ⟨W.heap.size,1,none⟩ (.string ⟨#[]⟩)).setCell ⟨W.heap.size,2,none⟩ (.int .i32 0)).setCell ⟨W.heap.size,3,none⟩ (.int .i64 0)).setCell ⟨W.heap.size,4,none⟩ (.int .i64 0)).setCell ⟨W.heap.size,5,none⟩ (.int .i64 0)→Blk w9 W.heap.size #[.int .i64 0,.string ⟨#[]⟩,.int .i32 0,.int .i64 0,.int .i64 0,.int .i64 0] 123∧RrAt w9 lo R g a c ws k k vs ls∧W.grownBy w9 (some R)):=kz (fun w9 e =>by
    subst e
    have q1:=zad w1 R 2 (.int .i64 k)
    have b1:=(oz HR1).set 2 (.int .i64 k)
    rw [zig] at b1
    have hg:=zby (zai (⟨(oz HB1).os,(oz HB1).tape,(oz HB1).output,(oz HB1).size,fun i hi _ =>(oz HB1).block i hi⟩:W.grownBy w1 (some R)) q1) W.heap.size (Nat.le_refl _) (.int .i64 0) (.string ⟨#[]⟩) (.int .i32 0) (.int .i64 0) (.int .i64 0) (.int .i64 0)
    exact ⟨box6 ((oz HZ1).kept q1 (fun e =>hne (Option.some.inj e).symm)) _ _ _ _ _ _,(oz H).upd hg (oz H).kn (zbg b1 hne _ _ _ _ _ _),hg⟩)
   clear H HZ1 HR1 HB1
   go_wp2_with fail
   obtain ⟨hbz,hrr,hgr⟩:=oz HFIN _ rfl
   have r0:=hbz.cell 0
   have r1:=hbz.cell 1
   have r2:=hbz.cell 2
   have r3:=hbz.cell 3
   have r4:=hbz.cell 4
   have r5:=hbz.cell 5
   rw [oz HT]
   exact bodyPost_ret (v:=r6V zgt) (by simp [results,Tryz.results84,go_sem,r0,r1,r2,r3,r4,r5,r6V,zgt]) rfl ⟨rfl,⟨k,⟨rfl,rfl⟩,hrr⟩,hgr⟩
  | some f =>
   obtain ⟨hbi,rfl⟩:=oz HBR
   have n1:¬ bi < 0:=by omega
   have k0:=(oz HZ1).cell 0
   have g0:=(oz HZ1).frozen 0
   have k1:=(oz HZ1).cell 1
   have g1:=(oz HZ1).frozen 1
   have k2:=(oz HZ1).cell 2
   have g2:=(oz HZ1).frozen 2
   have k3:=(oz HZ1).cell 3
   have g3:=(oz HZ1).frozen 3
   have k4:=(oz HZ1).cell 4
   have g4:=(oz HZ1).frozen 4
   have k5:=(oz HZ1).cell 5
   have g5:=(oz HZ1).frozen 5
   have HFIN:Hz (∀ w9,w9=((((((w1).setCell ⟨W.heap.size,0,none⟩ (.int .i64 0)).setCell ⟨W.heap.size,1,none⟩ (.string ⟨#[]⟩)).setCell ⟨W.heap.size,2,none⟩ (.int .i32 0)).setCell ⟨W.heap.size,3,none⟩ (.int .i64 0)).setCell ⟨W.heap.size,4,none⟩ (.int .i64 0)).setCell ⟨W.heap.size,5,none⟩ (.int .i64 0)→Blk w9 W.heap.size #[.int .i64 0,.string ⟨#[]⟩,.int .i32 0,.int .i64 0,.int .i64 0,.int .i64 0] 123∧RrAt w9 lo R g a c ws k bi vs ls∧W.grownBy w9 (some R)):=kz (fun w9 e =>by
    subst e
    have hg:=zby ((⟨(oz HB1).os,(oz HB1).tape,(oz HB1).output,(oz HB1).size,fun i hi _ =>(oz HB1).block i hi⟩:W.grownBy w1 (some R))) W.heap.size (Nat.le_refl _) (.int .i64 0) (.string ⟨#[]⟩) (.int .i32 0) (.int .i64 0) (.int .i64 0) (.int .i64 0)
    exact ⟨box6 (oz HZ1) _ _ _ _ _ _,(oz H).upd hg (oz H).kn (zbg (oz HR1) hne _ _ _ _ _ _),hg⟩)
   have HBI:=kz hbi
   clear H HZ1 HR1 HB1 hbi
   go_wp2_with fail
   obtain ⟨hbz,hrr,hgr⟩:=oz HFIN _ rfl
   have r0:=hbz.cell 0
   have r1:=hbz.cell 1
   have r2:=hbz.cell 2
   have r3:=hbz.cell 3
   have r4:=hbz.cell 4
   have r5:=hbz.cell 5
   rw [oz HT]
   exact bodyPost_ret (v:=r6V zgt) (by simp [results,Tryz.results84,go_sem,r0,r1,r2,r3,r4,r5,r6V,zgt]) rfl ⟨rfl,⟨bi,⟨oz HBI,rfl⟩,hrr⟩,hgr⟩
 | true =>
  rw [hs] at HS
  obtain ⟨x,hx,hlt,rfl⟩:=zbl hs
  have HT:=kz (show zaa ws k none eb el ec kind=⟨x,k+1,none⟩ by unfold zaa;rw [hs,hx])
  obtain rfl:bi = -1:=oz HBR
  obtain ⟨rfl,hgl,hgR⟩:=(oz H).ptr (by omega)
  have hnm:=(oz H).nmax
  have hcap:=(oz H).cap
  clear hs
  go_wp2_with fail
  generalize W.alloc _=w0 at *
  refine (oz HS).mono ?_
  rintro e w1 ⟨rfl,hb⟩
  have HB1:=kz ((oz HB0).trans (hb.mono (oz HB0).size))
  have hz1:=(oz HZ).below hb (oz HZ).lt
  have hR1:=(oz H).blk.below (oz HB1) hRW
  have c0:w1.cell? ⟨R,0,none⟩=some (.slice (some ⟨g,0,none⟩) ws.length c):=hR1.cell 0
  have c1:w1.cell? ⟨R,1,none⟩=some (.int .i64 k):=hR1.cell 1
  have f1:=hR1.frozen 1
  have hne:R≠W.heap.size:=Nat.ne_of_lt hRW
  have hne2:W.heap.size≠R:=Ne.symm hne
  have hgW:g≠W.heap.size:=fun e =>by
   have h5:=(oz H).words k x hx 0 _ rfl
   have h6:g < W.heap.size:=block_lt_of_cell h5
   omega
  have hgR2:R≠g:=Ne.symm hgR
  have HXW:Hz (∀ i u,(r6 x)[i]?=some u→w1.cell? ⟨g,k*6+i,none⟩=some u):=kz (fun i u hu =>by
   have h5:=(oz H).words k x hx i u hu
   exact ((oz HB1).cell (p:=⟨g,k*6+i,none⟩) (block_lt_of_cell h5)).trans h5)
  have HZ1:=kz hz1
  have HR1:=kz hR1
  have hk1:((k:Int)+1) - 1=(k:Int):=by omega
  have hk2:(0:Int)≤(k:Int):=by omega
  have hk3:(k:Int) < (ws.length:Int):=by omega
  have HFIN:Hz (∀ w9,w9=(((((((w1.setCell ⟨R,1,none⟩ (.int .i64 ((k:Int)+1))).setCell ⟨W.heap.size,0,none⟩ (.int .i64 x.k)).setCell ⟨W.heap.size,1,none⟩ (.string x.S)).setCell ⟨W.heap.size,2,none⟩ (.int .i32 x.r)).setCell ⟨W.heap.size,3,none⟩ (.int .i64 x.n)).setCell ⟨W.heap.size,4,none⟩ (.int .i64 x.b)).setCell ⟨W.heap.size,5,none⟩ (.int .i64 x.e)).drew→Blk w9 W.heap.size #[.int .i64 x.k,.string x.S,.int .i32 x.r,.int .i64 x.n,.int .i64 x.b,.int .i64 x.e] 123∧RrAt w9 lo R g (some ⟨g,0,none⟩) c ws (k+1) (-1) vs ls∧W.grownBy w9 (some R)):=kz (fun w9 e =>by
   subst e
   have q1:=zad w1 R 1 (.int .i64 ((k:Int)+1))
   have b1:=(oz HR1).set 1 (.int .i64 ((k:Int)+1))
   have hcc:=zif (some ⟨g,0,none⟩) ws.length c k (k+1) (-1) vs
   rw [show ((k+1:Nat):Int)=(k:Int)+1 by omega] at hcc
   rw [hcc] at b1
   have q2:W.grownBy (w1.setCell ⟨R,1,none⟩ (.int .i64 ((k:Int)+1))) (some R):=zai (⟨(oz HB1).os,(oz HB1).tape,(oz HB1).output,(oz HB1).size,fun i hi _ =>(oz HB1).block i hi⟩:W.grownBy w1 (some R)) q1
   have hg:=zby q2 W.heap.size (Nat.le_refl _) (.int .i64 x.k) (.string x.S) (.int .i32 x.r) (.int .i64 x.n) (.int .i64 x.b) (.int .i64 x.e)
   have z1:=(oz HZ1).kept q1 (fun e =>hne (Option.some.inj e).symm)
   have r1:=(oz H).upd hg (show k+1≤ws.length by omega) (zbg b1 hne _ _ _ _ _ _)
   have z2:=box6 z1 (.int .i64 x.k) (.string x.S) (.int .i32 x.r) (.int .i64 x.n) (.int .i64 x.b) (.int .i64 x.e)
   exact zhK z2 r1 hg)
  clear hb hz1 hR1 HS HZ HB0 HB1 HBR
  go_wp2_with fail
  have HC2:Hz (∀ w2,w2=w1.setCell ⟨R,1,none⟩ (.int .i64 ((k:Int)+1))→w2.cell? ⟨R,0,none⟩=some (.slice (some ⟨g,0,none⟩) ws.length c)∧w2.cell? ⟨R,1,none⟩=some (.int .i64 ((k:Int)+1))∧(∀ i u,(r6 x)[i]?=some u→w2.cell? ⟨g,k*6+i,none⟩=some u)∧Blk w2 W.heap.size #[.int .i64 0,.string ⟨#[]⟩,.int .i32 0,.int .i64 0,.int .i64 0,.int .i64 0] 123):=kz (fun w2 e =>by
   subst e
   have b1:=(oz HR1).set 1 (.int .i64 ((k:Int)+1))
   have q1:=zad w1 R 1 (.int .i64 ((k:Int)+1))
   exact ⟨b1.cell 0,b1.cell 1,fun i u hu =>q1.cell (a:=⟨g,k*6+i,none⟩) (oz HXW i u hu) (fun e =>hgR (Option.some.inj e)),(oz HZ1).kept q1 (fun e =>hne (Option.some.inj e).symm)⟩)
  generalize hw2:w1.setCell ⟨R,1,none⟩ (.int .i64 ((k:Int)+1))=w2 at *
  obtain ⟨y0,y1,y2,y3⟩:=oz HC2 _ rfl
  have x0:w2.cell? ⟨g,k*6,none⟩=some (.int .i64 x.k):=y2 0 _ rfl
  have x1:w2.cell? ⟨g,k*6+1,none⟩=some (.string x.S):=y2 1 _ rfl
  have x2:w2.cell? ⟨g,k*6+2,none⟩=some (.int .i32 x.r):=y2 2 _ rfl
  have x3:w2.cell? ⟨g,k*6+3,none⟩=some (.int .i64 x.n):=y2 3 _ rfl
  have x4:w2.cell? ⟨g,k*6+4,none⟩=some (.int .i64 x.b):=y2 4 _ rfl
  have x5:w2.cell? ⟨g,k*6+5,none⟩=some (.int .i64 x.e):=y2 5 _ rfl
  have k0:=y3.cell 0
  have g0:=y3.frozen 0
  have k1:=y3.cell 1
  have g1:=y3.frozen 1
  have k2:=y3.cell 2
  have g2:=y3.frozen 2
  have k3:=y3.cell 3
  have g3:=y3.frozen 3
  have k4:=y3.cell 4
  have g4:=y3.frozen 4
  have k5:=y3.cell 5
  have g5:=y3.frozen 5
  clear H HZ1 HR1 HXW HC2 y2 y3 hw2 c0 c1 f1
  go_region
  go_wp2_with fail
  obtain ⟨hbz,hrr,hgr⟩:=oz HFIN _ rfl
  have r0:=hbz.cell 0
  have r1:=hbz.cell 1
  have r2:=hbz.cell 2
  have r3:=hbz.cell 3
  have r4:=hbz.cell 4
  have r5:=hbz.cell 5
  rw [oz HT]
  exact bodyPost_ret (v:=r6V x) (by simp [results,Tryz.results84,go_sem,r0,r1,r2,r3,r4,r5,r6V]) rfl ⟨rfl,⟨-1,rfl,hrr⟩,hgr⟩
structure RrS (W w:World) (lo R g:Nat) (a:Option Addr) (c:Nat) (ws:List W8) (k:Nat) (bi:Int) (vs:List Value) (ls:List Ln):Prop where
 at_:RrAt w lo R g a c ws k bi vs ls
 gr:W.grownBy w (some R)
theorem RrS.start {W:World} {lo R g:Nat} {a:Option Addr} {c:Nat} {ws:List W8} {k:Nat} {bi:Int} {vs:List Value} {ls:List Ln} (h:RrAt W lo R g a c ws k bi vs ls):RrS W W lo R g a c ws k bi vs ls :=
 ⟨h,⟨rfl,rfl,rfl,Nat.le_refl _,fun _ _ _ =>rfl⟩⟩
theorem RrS.below {W w w':World} {lo R g:Nat} {a:Option Addr} {c:Nat} {ws:List W8} {k:Nat} {bi:Int} {vs:List Value} {ls:List Ln} (h:RrS W w lo R g a c ws k bi vs ls) (hb:Below w.heap.size w w'):RrS W w' lo R g a c ws k bi vs ls :=
 ⟨h.at_.below hb,zai h.gr ⟨hb.os,hb.tape,hb.output,hb.size,fun i hi _ =>hb.block i hi⟩⟩
theorem RrS.alloc {W w:World} {lo R g:Nat} {a:Option Addr} {c:Nat} {ws:List W8} {k:Nat} {bi:Int} {vs:List Value} {ls:List Ln} (h:RrS W w lo R g a c ws k bi vs ls) (o:Obj):RrS W (w.alloc o) lo R g a c ws k bi vs ls :=
 h.below ((Below.refl _ _).alloc (Nat.le_refl _) _)
theorem RrS.call {W w w':World} {lo R g:Nat} {a:Option Addr} {c:Nat} {ws:List W8} {k k':Nat} {bi bi':Int} {vs:List Value} {ls:List Ln} (h:RrS W w lo R g a c ws k bi vs ls) (h2:RrAt w' lo R g a c ws k' bi' vs ls) (hg:w.grownBy w' (some R)):RrS W w' lo R g a c ws k' bi' vs ls :=
 ⟨h2,zai h.gr hg⟩
theorem RrS.new {W w:World} {lo R g:Nat} {a:Option Addr} {c:Nat} {ws:List W8} {k k0:Nat} {bi b0:Int} {vs:List Value} {ls:List Ln} (h:RrS W w lo R g a c ws k bi vs ls) (h0:RrAt W lo R g a c ws k0 b0 vs ls) (N i:Nat) (v:Value) (hN:W.heap.size≤N):RrS W (w.setCell ⟨N,i,none⟩ v) lo R g a c ws k bi vs ls:=by
 have hg:=zcR h.gr N i v hN
 have hR:=h0.blk.lt
 exact ⟨h0.upd hg h.at_.kn (h.at_.blk.kept (zad w N i v) (fun e =>by have:=Option.some.inj e;omega)),hg⟩
theorem RrS.next {W w:World} {lo R g:Nat} {a:Option Addr} {c:Nat} {ws:List W8} {k:Nat} {bi:Int} {vs:List Value} {ls:List Ln} (h:RrS W w lo R g a c ws k bi vs ls) (hk:k+1≤ws.length):RrS W (w.setCell ⟨R,1,none⟩ (.int .i64 ((k:Int)+1))) lo R g a c ws (k+1) bi vs ls:=by
 have q1:=zad w R 1 (.int .i64 ((k:Int)+1))
 have b1:=h.at_.blk.set 1 (.int .i64 ((k:Int)+1))
 have hcc:=zif a ws.length c k (k+1) bi vs
 rw [show ((k+1:Nat):Int)=(k:Int)+1 by omega] at hcc
 rw [hcc] at b1
 exact ⟨h.at_.upd q1 hk b1,zai h.gr q1⟩
theorem zcD (a:Int) (b:ByteArray) (c d e f:Int) (w:World):(Instr.field 123 (.agg #[.int .i64 a,.string b,.int .i32 c,.int .i64 d,.int .i64 e,.int .i64 f]) 2).run Tryz.prog w=.ok (.int .i32 c) w:=by kernel_rfl
set_option maxRecDepth 100000 in
set_option maxHeartbeats 4000000 in
theorem rspan_any (lo R g:Nat) (a:Option Addr) (c:Nat) (ws:List W8) (k:Nat) (bi:Int) (bad:Option Rf) (eb el ec:Int) (vs:List Value) (ls:List Ln) (W:World) (h:RrAt W lo R g a c ws k bi vs ls) (hB:BadR ws k eb el ec bi bad) :
  Calls Tryz.prog 133 #[.pointer (some ⟨R,0,none⟩)] W fun e w' =>e=.returned (.tuple #[.agg #[.int .i32 (zbs ws k bad eb el ec).lo,.int .i32 (zbs ws k bad eb el ec).hi],.int .i64 (zaa ws k bad eb el ec 3).x.b])∧(∃ bi',BadR ws (zbs ws k bad eb el ec).k eb el ec bi' (zbs ws k bad eb el ec).bad∧RrAt w' lo R g a c ws (zbs ws k bad eb el ec).k bi' vs ls)∧W.grownBy w' (some R):=by
 have hmx:Tryz.prog.follows .mixedOrders=true:=by kernel_rfl
 have hRW:R < W.heap.size:=h.blk.lt
 have H:=kz h
 have H0:=kz ((RrS.start h).alloc (.cells #[.int .i32 0,.int .i32 0] 73))
 have HZ:=kz (Blk.new W #[.int .i32 0,.int .i32 0] 73)
 have HV:Hz (zbs ws k bad eb el ec=if zaJ ws (zaa ws k bad eb el ec 3).k (zaa ws k bad eb el ec 3).bad 9=true then ⟨(zaa ws k bad eb el ec 3).x.r,(zaa ws (zaa ws (zaa ws k bad eb el ec 3).k (zaa ws k bad eb el ec 3).bad eb el ec 9).k (zaa ws (zaa ws k bad eb el ec 3).k (zaa ws k bad eb el ec 3).bad eb el ec 9).bad eb el ec 3).x.r,(zaa ws (zaa ws (zaa ws k bad eb el ec 3).k (zaa ws k bad eb el ec 3).bad eb el ec 9).k (zaa ws (zaa ws k bad eb el ec 3).k (zaa ws k bad eb el ec 3).bad eb el ec 9).bad eb el ec 3).k,(zaa ws (zaa ws (zaa ws k bad eb el ec 3).k (zaa ws k bad eb el ec 3).bad eb el ec 9).k (zaa ws (zaa ws k bad eb el ec 3).k (zaa ws k bad eb el ec 3).bad eb el ec 9).bad eb el ec 3).bad⟩ else ⟨(zaa ws k bad eb el ec 3).x.r,(zaa ws k bad eb el ec 3).x.r,(zaa ws k bad eb el ec 3).k,(zaa ws k bad eb el ec 3).bad⟩):=kz rfl
 have HC:=kz (zaE lo R g a c ws k bi bad eb el ec 3 vs ls _ (oz H0).at_ hB)
 generalize zbs ws k bad eb el ec=SV at *
 generalize zaa ws k bad eb el ec 3=A at *
 obtain ⟨x,k1,bad1⟩:=A
 dsimp only at HV HC ⊢
 clear h hB
 go_enter Tryz.func133,Tryz.ntmps133
 go_wp2_with fail
 generalize W.alloc _=w0 at *
 refine (oz HC).mono ?_
 unfold r6V
 rintro e w1 ⟨rfl,⟨b1,hB1,hR1⟩,hg1⟩
 have H1:=kz ((oz H0).call hR1 hg1)
 have hz1:=(oz HZ).kept hg1 (fun e =>by have:=Option.some.inj e;omega)
 have HZ1:=kz hz1
 have HB1:=kz hB1
 have hWw:=hz1.lt
 clear HC H0 HZ hR1 hg1 hB1 hz1
 go_wp2_with fail
 have hbx:Below w1.heap.size w1 (((w1.alloc (.cells #[.int .i64 x.k,.string x.S,.int .i32 x.r,.int .i64 x.n,.int .i64 x.b,.int .i64 x.e] 123)).alloc (.cells #[.int .i32 x.r,.int .i32 x.r] 73))):=((Below.refl _ w1).alloc (Nat.le_refl _) _).alloc (by simp) _
 have hx2:=(Blk.new w1 #[.int .i64 x.k,.string x.S,.int .i32 x.r,.int .i64 x.n,.int .i64 x.b,.int .i64 x.e] 123).alloc (.cells #[.int .i32 x.r,.int .i32 x.r] 73)
 have hs2:=Blk.new (w1.alloc (.cells #[.int .i64 x.k,.string x.S,.int .i32 x.r,.int .i64 x.n,.int .i64 x.b,.int .i64 x.e] 123)) #[.int .i32 x.r,.int .i32 x.r] 73
 rw [World.size_alloc] at hs2
 have H2:=kz ((oz H1).below hbx)
 have HN2:=kz ((oz HZ1).below hbx hWw)
 have HX2:=kz hx2
 have HS2:=kz hs2
 have hM:W.heap.size < w1.heap.size:=hWw
 clear hbx hx2 hs2 H1 HZ1 hWw
 generalize (w1.alloc _).alloc _=w2 at *
 generalize w1.heap.size=M at *
 have HC:=kz (zb3 lo R g a c ws k1 b1 bad1 eb el ec 9 vs ls w2 (oz H2).at_ (oz HB1))
 cases hs:zaJ ws k1 bad1 9 with
 | false =>
  rw [hs] at HC HV
  rw [if_neg (by decide)] at HV
  clear hs
  refine (oz HC).mono ?_
  rintro e w3 ⟨rfl,hb3⟩
  have H3:=kz ((oz H2).below hb3)
  have HN3:=kz ((oz HN2).below hb3 (oz HN2).lt)
  have HX3:=kz ((oz HX2).below hb3 (oz HX2).lt)
  have HS3:=kz ((oz HS2).below hb3 (oz HS2).lt)
  clear hb3 HC H2 HN2 HX2 HS2
  go_wp2_with fail
  have n0:=(oz HN3).cell 0
  have n1:=(oz HN3).cell 1
  have m0:=(oz HN3).frozen 0
  have m1:=(oz HN3).frozen 1
  have s0:=(oz HS3).cell 0
  have s1:=(oz HS3).cell 1
  have x4:=(oz HX3).cell 4
  have HFIN:Hz (∀ w9,w9=((w3.setCell ⟨W.heap.size,0,none⟩ (.int .i32 x.r)).setCell ⟨W.heap.size,1,none⟩ (.int .i32 x.r)).drew→Blk w9 W.heap.size #[.int .i32 x.r,.int .i32 x.r] 73∧RrAt w9 lo R g a c ws k1 b1 vs ls∧W.grownBy w9 (some R)):=kz (fun w9 e =>by
   subst e
   have r2:=((oz H3).new (oz H) W.heap.size 0 (.int .i32 x.r) (Nat.le_refl _)).new (oz H) W.heap.size 1 (.int .i32 x.r) (Nat.le_refl _)
   have b2:=((oz HN3).set 0 (.int .i32 x.r)).set 1 (.int .i32 x.r)
   exact zhK b2 r2.at_ r2.gr)
  clear H HN3 HS3 HX3 H3
  go_region
  go_wp2_with fail
  obtain ⟨hbz,hrr,hgr⟩:=oz HFIN _ rfl
  have r0:=hbz.cell 0
  have r1:=hbz.cell 1
  rw [oz HV]
  exact bodyPost_ret (v := .tuple #[.agg #[.int .i32 x.r,.int .i32 x.r],.int .i64 x.b]) (by simp [results,Tryz.results133,go_sem,r0,r1]) rfl ⟨rfl,⟨b1,oz HB1,hrr⟩,hgr⟩
 | true =>
  obtain ⟨y,hy,hlt,rfl⟩:=zbl hs
  have ht9:zaa ws k1 none eb el ec 9=⟨y,k1+1,none⟩:=by unfold zaa;rw [hs,hy]
  rw [hs] at HC
  rw [hs,if_pos rfl,ht9] at HV
  obtain rfl:b1 = -1:=oz HB1
  have hk1:k1≤1000000:=by have:=(oz H).nmax;omega
  clear hs ht9 hy
  refine (oz HC).mono ?_
  rintro e w3 ⟨rfl,hb3⟩
  have H3:=kz ((oz H2).below hb3)
  have HN3:=kz ((oz HN2).below hb3 (oz HN2).lt)
  have HX3:=kz ((oz HX2).below hb3 (oz HX2).lt)
  have HS3:=kz ((oz HS2).below hb3 (oz HS2).lt)
  have c1:w3.cell? ⟨R,1,none⟩=some (.int .i64 k1):=(oz H3).at_.blk.cell 1
  have f1:=(oz H3).at_.blk.frozen 1
  have q4:=zad w3 R 1 (.int .i64 ((k1:Int)+1))
  have H4:=kz ((oz H3).next (by omega))
  have HN4:=kz ((oz HN3).kept q4 (fun e =>by have:=Option.some.inj e;omega))
  have HX4:=kz ((oz HX3).kept q4 (fun e =>by have:=Option.some.inj e;omega))
  have HS4:=kz ((oz HS3).kept q4 (fun e =>by have:=Option.some.inj e;omega))
  clear hb3 HC H2 HN2 HX2 HS2 H3 HN3 HX3 HS3 q4
  have HC:=kz (zaE lo R g a c ws (k1+1) (-1) none eb el ec 3 vs ls _ (oz H4).at_ rfl)
  generalize zaa ws (k1+1) none eb el ec 3=A2 at *
  obtain ⟨x2,k2,bad2⟩:=A2
  dsimp only at HV HC
  go_wp2_with fail
  generalize w3.setCell _ _=w4 at *
  refine (oz HC).mono ?_
  unfold r6V
  rintro e w5 ⟨rfl,⟨b2,hB2,hR5⟩,hg5⟩
  have H5:=kz ((oz H4).call hR5 hg5)
  have HN5:=kz ((oz HN4).kept hg5 (fun e =>by have:=Option.some.inj e;omega))
  have HX5:=kz ((oz HX4).kept hg5 (fun e =>by have:=Option.some.inj e;omega))
  have hs5:=(oz HS4).kept hg5 (fun e =>by have:=Option.some.inj e;omega)
  have e1:=hs5.cell 1
  have g1:=hs5.frozen 1
  have q6:=zad w5 (M+1) 1 (.int .i32 x2.r)
  have H6:=kz ((oz H5).new (oz H) (M+1) 1 (.int .i32 x2.r) (by omega))
  have HN6:=kz ((oz HN5).kept q6 (fun e =>by have:=Option.some.inj e;omega))
  have HX6:=kz ((oz HX5).kept q6 (fun e =>by have:=Option.some.inj e;omega))
  have HS6:Hz (Blk _ (M+1) #[.int .i32 x.r,.int .i32 x2.r] 73):=kz (hs5.set 1 (.int .i32 x2.r))
  have HB2:=kz hB2
  have hfr:=zcD x2.k x2.S x2.r x2.n x2.b x2.e
  clear HC H4 HN4 HX4 HS4 H5 HN5 HX5 hs5 q6 hR5 hg5 hB2 c1 f1
  go_wp2_with fail
  clear e1 g1 hfr
  generalize w5.setCell _ _=w6 at *
  have n0:=(oz HN6).cell 0
  have n1:=(oz HN6).cell 1
  have m0:=(oz HN6).frozen 0
  have m1:=(oz HN6).frozen 1
  have s0:=(oz HS6).cell 0
  have s1:=(oz HS6).cell 1
  have x4:=(oz HX6).cell 4
  have HFIN:Hz (∀ w9,w9=((w6.setCell ⟨W.heap.size,0,none⟩ (.int .i32 x.r)).setCell ⟨W.heap.size,1,none⟩ (.int .i32 x2.r)).drew→Blk w9 W.heap.size #[.int .i32 x.r,.int .i32 x2.r] 73∧RrAt w9 lo R g a c ws k2 b2 vs ls∧W.grownBy w9 (some R)):=kz (fun w9 e =>by
   subst e
   have r2:=((oz H6).new (oz H) W.heap.size 0 (.int .i32 x.r) (Nat.le_refl _)).new (oz H) W.heap.size 1 (.int .i32 x2.r) (Nat.le_refl _)
   have b2:=((oz HN6).set 0 (.int .i32 x.r)).set 1 (.int .i32 x2.r)
   exact zhK b2 r2.at_ r2.gr)
  clear H HN6 HS6 HX6 H6
  go_region
  go_wp2_with fail
  obtain ⟨hbz,hrr,hgr⟩:=oz HFIN _ rfl
  have r0:=hbz.cell 0
  have r1:=hbz.cell 1
  rw [oz HV]
  exact bodyPost_ret (v := .tuple #[.agg #[.int .i32 x.r,.int .i32 x2.r],.int .i64 x.b]) (by simp [results,Tryz.results133,go_sem,r0,r1]) rfl ⟨rfl,⟨b2,oz HB2,hrr⟩,hgr⟩
def zbw (ps:List (Int × Int × Int)):List Value:=ps.map fun p =>Value.int .i64 p.1
theorem encB_snoc (ps:List (Int × Int × Int)) (p:Int × Int × Int):zbw (ps++[p])=zbw ps++[.int .i64 p.1]:=by simp [zbw]
theorem zc8 (ps qs:List (Int × Int × Int)):zbw (ps++qs)=zbw ps++zbw qs:=by simp [zbw]
theorem zgf:(Tryz.prog.info? 3).map (fun i =>(i.zero,i.size,i.bytes))=some (some (.int .i64 0),1,8):=by kernel_rfl
structure RpSt (W w:World) (lo R g:Nat) (a:Option Addr) (c:Nat) (ws:List W8) (k:Nat) (bi:Int) (vs:List Value) (ls:List Ln) (us up:Value) (ss:List (Int × Int)) (ps:List (Int × Int × Int)):Prop where
 rs:RrS W w lo R g a c ws k bi vs ls
 os:w.ownsRow W.heap.size 73 2 us ss.length (zap ss)
 op:w.ownsRow W.heap.size 3 1 up ps.length (zbw ps)
 hR:R < W.heap.size
 ns:ss=[]→us=.slice none 0 0
 np:ps=[]→up=.slice none 0 0
theorem RpSt.call {W w w':World} {lo R g:Nat} {a:Option Addr} {c:Nat} {ws:List W8} {k k':Nat} {bi bi':Int} {vs:List Value} {ls:List Ln} {us up:Value} {ss:List (Int × Int)} {ps:List (Int × Int × Int)} (h:RpSt W w lo R g a c ws k bi vs ls us up ss ps) (h2:RrAt w' lo R g a c ws k' bi' vs ls) (hg:w.grownBy w' (some R)):RpSt W w' lo R g a c ws k' bi' vs ls us up ss ps :=
 ⟨h.rs.call h2 hg,zat h.os hg (.inr fun e =>by have:=zam h.os R e;have:=h.hR;omega),zat h.op hg (.inr fun e =>by have:=zam h.op R e;have:=h.hR;omega),h.hR,h.ns,h.np⟩
theorem RpSt.below {W w w':World} {lo R g:Nat} {a:Option Addr} {c:Nat} {ws:List W8} {k:Nat} {bi:Int} {vs:List Value} {ls:List Ln} {us up:Value} {ss:List (Int × Int)} {ps:List (Int × Int × Int)} (h:RpSt W w lo R g a c ws k bi vs ls us up ss ps) (hb:Below w.heap.size w w'):RpSt W w' lo R g a c ws k bi vs ls us up ss ps :=
 h.call (h.rs.at_.below hb) ⟨hb.os,hb.tape,hb.output,hb.size,fun i hi _ =>hb.block i hi⟩
theorem RpSt.alloc {W w:World} {lo R g:Nat} {a:Option Addr} {c:Nat} {ws:List W8} {k:Nat} {bi:Int} {vs:List Value} {ls:List Ln} {us up:Value} {ss:List (Int × Int)} {ps:List (Int × Int × Int)} (h:RpSt W w lo R g a c ws k bi vs ls us up ss ps) (o:Obj):RpSt W (w.alloc o) lo R g a c ws k bi vs ls us up ss ps:=h.below ((Below.refl _ _).alloc (Nat.le_refl _) _)
theorem RrS.own {W w w':World} {lo R g:Nat} {a:Option Addr} {c:Nat} {ws:List W8} {k k0:Nat} {bi b0:Int} {vs:List Value} {ls:List Ln} {E sz n:Nat} {u:Value} {xs:List Value} (h:RrS W w lo R g a c ws k bi vs ls) (h0:RrAt W lo R g a c ws k0 b0 vs ls) (ho:w.ownsRow W.heap.size E sz u n xs) (hg:w.grownBy w' u.ownBlock):RrS W w' lo R g a c ws k bi vs ls:=by
 have hq:=zeR h.gr (zam ho) hg
 have hR:=h0.blk.lt
 exact ⟨h0.upd hq h.at_.kn (h.at_.blk.kept hg (fun e =>by have:=zam ho R e.symm;omega)),hq⟩
theorem RpSt.span {W w w':World} {lo R g:Nat} {a:Option Addr} {c:Nat} {ws:List W8} {k k0:Nat} {bi b0:Int} {vs:List Value} {ls:List Ln} {us us' up:Value} {ss:List (Int × Int)} {ps:List (Int × Int × Int)} {x y:Int} (h:RpSt W w lo R g a c ws k bi vs ls us up ss ps) (h0:RrAt W lo R g a c ws k0 b0 vs ls) (ho:w'.ownsRow W.heap.size 73 2 us' (ss.length+1) (zap ss++[.int .i32 x,.int .i32 y])) (hg:w.grownBy w' us.ownBlock):RpSt W w' lo R g a c ws k bi vs ls us' up (ss++[(x,y)]) ps :=
 ⟨h.rs.own h0 h.os hg,by rw [zg1,List.length_append];exact ho,zat h.op hg (zcA h.op h.os (by decide)),h.hR,fun e =>absurd e (by simp),h.np⟩
theorem RpSt.place {W w w':World} {lo R g:Nat} {a:Option Addr} {c:Nat} {ws:List W8} {k k0:Nat} {bi b0:Int} {vs:List Value} {ls:List Ln} {us up up':Value} {ss:List (Int × Int)} {ps:List (Int × Int × Int)} {p:Int × Int × Int} (h:RpSt W w lo R g a c ws k bi vs ls us up ss ps) (h0:RrAt W lo R g a c ws k0 b0 vs ls) (ho:w'.ownsRow W.heap.size 3 1 up' (ps.length+1) (zbw ps++[.int .i64 p.1])) (hg:w.grownBy w' up.ownBlock):RpSt W w' lo R g a c ws k bi vs ls us up' ss (ps++[p]) :=
 ⟨h.rs.own h0 h.op hg,zat h.os hg (zcA h.os h.op (by decide)),by rw [encB_snoc,List.length_append];exact ho,h.hR,h.ns,fun e =>absurd e (by simp)⟩
set_option maxRecDepth 100000 in
set_option maxHeartbeats 4000000 in
theorem zeb (lo R g:Nat) (a:Option Addr) (c:Nat) (ws:List W8) (k:Nat) (bi:Int) (bad:Option Rf) (eb el ec:Int) (vs:List Value) (ls:List Ln) (W:World) (h:RrAt W lo R g a c ws k bi vs ls) (hB:BadR ws k eb el ec bi bad) :
  Calls Tryz.prog 85 #[.pointer (some ⟨R,0,none⟩)] W fun e w' => ∃ us up,e=.returned (.tuple #[us,up])∧∃ bi',BadR ws (zaf ws k bad eb el ec).k eb el ec bi' (zaf ws k bad eb el ec).bad∧RpSt W w' lo R g a c ws (zaf ws k bad eb el ec).k bi' vs ls us up (zaf ws k bad eb el ec).ss (zaf ws k bad eb el ec).ps:=by
 have hRW:R < W.heap.size:=h.blk.lt
 have hkn:=h.kn
 have hnm:=h.nmax
 have H:=kz h
 have HT:=kz (zaM ws k bad eb el ec 4 hkn)
 obtain ⟨T,hT⟩:∃ T,T=zaT ws eb el ec (ws.length+1) (zaa ws k bad eb el ec 4).k (zaa ws k bad eb el ec 4).bad:=⟨_,rfl⟩
 have HV:Hz (zaf ws k bad eb el ec=⟨T.ss,T.ps,(zaa ws T.k T.bad eb el ec 5).k,(zaa ws T.k T.bad eb el ec 5).bad⟩):=kz (by rw [hT];rfl)
 have HT2:=kz hT
 have HC:=kz (zaE lo R g a c ws k bi bad eb el ec 4 vs ls W h hB)
 clear hT h hB
 generalize zaf ws k bad eb el ec=V at *
 obtain ⟨ia,hia,ha0,ha1,ha2⟩:=info_parts zgf
 obtain ⟨is,his,hs0,hs1,hs2⟩:=info_parts zcB
 have HIA:=kz (And.intro hia (And.intro ha0 (And.intro ha1 ha2)))
 have HIS:=kz (And.intro his (And.intro hs0 (And.intro hs1 hs2)))
 clear hia ha0 ha1 ha2 his hs0 hs1 hs2
 go_enter Tryz.func85,Tryz.ntmps85
 go_wp2_with fail
 refine (oz HC).mono ?_
 generalize zaa ws k bad eb el ec 4=A at *
 obtain ⟨ax,k1,bad1⟩:=A
 dsimp only at HT HT2
 dsimp only
 generalize r6V ax=vax
 rintro e w1 ⟨rfl,⟨b1,hB1,hR1⟩,hg1⟩
 have HS1:Hz (BadR ws k1 eb el ec b1 bad1∧RpSt W w1 lo R g a c ws k1 b1 vs ls (.slice none 0 0) (.slice none 0 0) [] []):=kz ⟨hB1,⟨hR1,hg1⟩,World.ownsRow_nil _ _ _ _,World.ownsRow_nil _ _ _ _,hRW,fun _ =>rfl,fun _ =>rfl⟩
 have HG1:Hz (SgSt ws eb el ec T (ws.length+1) k1 bad1 [] []):=kz ⟨by rw [oz HT2];simp,by omega,(oz HT).2,by simp,by simp⟩
 clear hR1 hg1 hB1 HT2 HT HC
 go_wp2_with fail
 go_loopw [4,5] (fun us up wr => ∃ (f k2:Nat) (bad2:Option Rf) (b2:Int) (ss:List (Int × Int)) (ps:List (Int × Int × Int)),Hz (SgSt ws eb el ec T f k2 bad2 ss ps)∧Hz (BadR ws k2 eb el ec b2 bad2∧RpSt W wr lo R g a c ws k2 b2 vs ls us up ss ps))
  (fun us _ _ =>ws.length - slLen us)
 case atStart =>exact ⟨_,k1,bad1,b1,[],[],HG1,HS1⟩
 case round =>
  obtain ⟨f,k2,bad2,b2,ss,ps,HG,HS⟩:=hrel
  clear HG1 HS1
  have HSE:=kz (zb3 lo R g a c ws k2 b2 bad2 eb el ec 3 vs ls wr (oz HS).2.rs.at_ (oz HS).1)
  cases hs:zaJ ws k2 bad2 3 with
  | false =>
   rw [hs] at HSE
   have HTE:=kz ((oz HG).stop hs)
   clear hs HG
   go_wp2_with fail
   refine (oz HSE).mono ?_
   rintro e w2 ⟨rfl,hb2⟩
   have HS2:=kz ((oz HS).2.below hb2)
   have HC:=kz (zaE lo R g a c ws k2 b2 bad2 eb el ec 5 vs ls w2 (oz HS2).rs.at_ (oz HS).1)
   clear hb2 HSE HS
   go_wp2_with fail
   refine (oz HC).mono ?_
   generalize r6V (zaa ws k2 bad2 eb el ec 5).x=vz
   rintro e w3 ⟨rfl,⟨b3,hB3,hR3⟩,hg3⟩
   have HF:=kz (And.intro hB3 ((oz HS2).call hR3 hg3))
   clear hR3 hg3 hB3 HC
   go_wp2_with fail
   exact bodyPost_ret (v := .tuple #[u4,u5]) (by simp [results,Tryz.results85,go_sem]) rfl ⟨_,_,rfl,b3,by rw [oz HV,oz HTE];exact oz HF⟩
  | true =>
   rw [hs] at HSE
   obtain ⟨x,hx,hlt,hbad⟩:=zbl hs
   obtain ⟨f',hnext⟩:=(oz HG).next hs
   have htx:(zaa ws k2 bad2 eb el ec 3).x=x:=by unfold zaa;rw [hs,hx]
   rw [show atV ws k2=(x.b,x.l,x.c) by unfold atV;rw [hx]] at hnext
   have hls:ss.length≤999999:=by have:=(oz HG).len;omega
   have hlp:ps.length≤999999:=by have:=(oz HG).lep;omega
   have hme:ss.length < ws.length:=by have:=(oz HG).len;omega
   have HSP:=kz (fun (w:World) (h5:RrAt w lo R g a c ws k2 b2 vs ls) =>rspan_any lo R g a c ws k2 b2 bad2 eb el ec vs ls w h5 (oz HS).1)
   rw [htx] at HSP
   have HNX:=kz hnext
   have HME:=kz hme
   have HS0:=kz (oz HS).2
   clear hx hlt hbad hs hnext HG hme htx HS
   generalize zbs ws k2 bad2 eb el ec=SV at *
   obtain ⟨xl,xh,k3,bad3⟩:=SV
   dsimp only at HSP HNX
   go_wp2_with fail
   refine (oz HSE).mono ?_
   rintro e w2 ⟨rfl,hb2⟩
   have HS2:=kz ((oz HS0).below hb2)
   clear hb2 HSE HS0
   go_wp2_with fail
   refine (oz HSP w2 (oz HS2).rs.at_).mono ?_
   rintro e w3 ⟨rfl,⟨b3,hB3,hR3⟩,hg3⟩
   have HS3:=kz ((oz HS2).call hR3 hg3)
   have HB3:=kz hB3
   clear hR3 hg3 hB3 HS2 HSP
   go_wp2_with (at_builtin;refine zdH rfl _ _ 28 73 rfl is (.agg #[.int .i32 0,.int .i32 0]) 2 8 Tryz.underlying28 (oz HIS) rfl (by decide) (by decide) W.heap.size _ ss.length (zap ss) [.int .i32 xl,.int .i32 xh] rfl rfl (by omega) (w3.alloc (.cells #[.int .i32 xl,.int .i32 xh] 73)) rfl (by intro u hu;simp at hu;rcases hu with rfl | rfl <;> rfl) ((oz HS3).alloc _).os (by have:=(oz HS3).rs.gr.size;rw [World.size_alloc];omega) (w3.heap.size+1) (by rw [World.size_alloc]) rfl ?_)
   intro us' w5 hown hgrow
   have HS5:=kz ((((oz HS3).alloc _).alloc _).span (oz H) hown hgrow)
   have HL1:=kz (zdY (oz HS3).os)
   have HL2:=kz (zdY hown)
   clear hown hgrow HS3
   go_wp2_with (at_builtin;refine zdH rfl _ _ 34 3 rfl ia (.int .i64 0) 1 8 Tryz.underlying34 (oz HIA) rfl (by decide) (by decide) W.heap.size _ ps.length (zbw ps) [.int .i64 x.b] rfl rfl (by omega) w5 rfl (by intro u hu;simp at hu;rcases hu with rfl;rfl) (oz HS5).op (by have:=(oz HS5).rs.gr.size;omega) _ rfl rfl ?_)
   intro up' w6 hown hgrow
   have HS6:=kz (((oz HS5).alloc _).place (p:=(x.b,x.l,x.c)) (oz H) hown hgrow)
   clear hown hgrow HS5
   go_wp2_with fail
   go_roundw
   case rel =>exact ⟨f',k3,bad3,b3,_,_,HNX,kz ⟨oz HB3,oz HS6⟩⟩
   case measure =>have:=oz HL1;have:=oz HL2;have:=oz HME;omega
end Go.Proofs.YtmdgejgokoadlaaGreatDoor
namespace Go.Proofs.YtmdgejgokoadlaaGreatDoor
open Go.RowKit Go.Shelf
open Go.Lib (strCells strCells_length)
set_option linter.unusedVariables false
theorem zhZ (a b:ByteArray):strCells (a++b)=strCells a++strCells b:=by simp [strCells]
theorem infoByteR:(Tryz.prog.info? 5).map (fun i =>(i.zero,i.size,i.bytes))=some (some (.int .u8 0),1,1):=by kernel_rfl
theorem own_text {W:World} {base:Nat} {v:Value} {b:ByteArray} (h:W.ownsRow base 5 1 v b.size (strCells b)):(convert 105 9 v).run Tryz.prog W=.ok (.string b) W:=by
 rcases h.2 with ⟨rfl,h0⟩ | ⟨g,cap,cur,rfl,_,hh,_,_,_,ht⟩
 ·rw [run_convert_bytes_nil W 105 5 Tryz.underlying105 Tryz.underlying5 0 0 9 Tryz.underlying9]
  have:b=ByteArray.empty:=by
   have h1:b.data.size=0:=h0
   simpa using h1
  rw [this]
 ·have e:b.size=b.data.toList.length:=by simp
  rw [e]
  exact run_convert_bytes_back W 105 9 5 ⟨g,0,none⟩ cap b.data.toList Tryz.underlying105 Tryz.underlying5 Tryz.underlying9 (fun j hj =>by
   refine h.cells (g:=g) rfl j _ ?_
   simp [strCells,List.getElem?_eq_getElem hj])
theorem zf5 (l:List Int) (i:Nat) (z:Int) (h:l[i]?=some z):runesBytes (l.take (i+1))=runesBytes (l.take i)++Utf8.encode z:=by
 rw [List.take_add_one,h,Option.toList_some]
 unfold runesBytes
 rw [List.foldl_append]
 rfl
theorem zhs (l:List Int):(runesBytes l).size≤4*l.length:=by
 have:=foldl_size_le l ByteArray.empty
 simpa [runesBytes] using this
structure RxSt (W w:World) (v:Value) (b:ByteArray):Prop where
 o:w.ownsRow W.heap.size 5 1 v b.size (strCells b)
 b:Below W.heap.size W w
set_option maxRecDepth 100000 in
set_option maxHeartbeats 4000000 in
theorem rtext_any (a:Option Addr) (cap:Nat) (l:List Int) (hl:l.length≤1000000+1) (W:World) (hr:RowC W W.heap.size a (zgs l)) :
  Calls Tryz.prog 134 #[.slice a l.length cap] W fun e w' =>e=.returned (.string (runesBytes l))∧Below W.heap.size W w':=by
 obtain ⟨ib,hib,hb0,hb1,hb2⟩:=info_parts infoByteR
 have HIB:=kz (And.intro hib (And.intro hb0 (And.intro hb1 hb2)))
 clear hib hb0 hb1 hb2
 have HR:=kz hr
 clear hr
 obtain ⟨N,hN⟩:∃ N,N=l.length:=⟨_,rfl⟩
 have HN:=kz hN
 rw [← hN] at hl ⊢
 clear hN
 go_enter Tryz.func134,Tryz.ntmps134
 go_wp2_with fail
 go_loopw [3,4] (fun bv iv wr => ∃ i:Nat,i≤N∧iv=.int .i64 (i:Int)∧Hz (RxSt W wr bv (runesBytes (l.take i)))) (fun _ iv _ =>N - (intOf iv).toNat)
 case atStart =>exact ⟨0,Nat.zero_le _,rfl,kz ⟨World.ownsRow_nil _ _ _ _,Below.refl _ _⟩⟩
 case round =>
  obtain ⟨i,hi,rfl,HQ⟩:=hrel
  by_cases hlt:i < N
  ·have k1:(i:Int) < (N:Int):=by omega
   have k2:(0:Int)≤(i:Int):=by omega
   obtain ⟨z,hz⟩:∃ z,l[i]?=some z:=⟨_,List.getElem?_eq_getElem (by have:=oz HN;omega)⟩
   have hzz:(zgs l)[i]?=some (.int .i32 z):=by unfold zgs;rw [List.getElem?_map,hz];rfl
   obtain ⟨g,o,rfl,hg,hc⟩:=oz HR (by have:=(List.getElem?_eq_some_iff.1 hzz).1;omega)
   have c0:wr.cell? ⟨g,o+i,none⟩=some (.int .i32 z):=((oz HQ).b.cell (p:=⟨g,o+i,none⟩) hg).trans (hc i _ hzz)
   have HZ:=kz hz
   have hsz:=zhs (l.take i)
   have hsz2:(runesBytes (l.take i)).size≤4000004:=by rw [List.length_take] at hsz;omega
   have hez:=encode_size_le z
   have HSZ:=kz (And.intro hsz2 hez)
   clear hz hzz hc hsz hsz2 hez hg
   go_wp2_with (at_builtin;refine Go.Lib.wpList_append_own_string _ rfl _ _ 105 9 rfl W.heap.size 5 ib Tryz.underlying105 Tryz.underlying9 (oz HIB).1 (oz HIB).2.1 (oz HIB).2.2.1 (oz HIB).2.2.2 _ (runesBytes (l.take i)).size (strCells (runesBytes (l.take i))) rfl (oz HQ).o (Utf8.encode z) rfl (by have:=oz HSZ;unfold maxLen;omega) (by have:=oz HSZ;omega) (oz HQ).b.size ?_)
   intro v' w2 hown hgrow _
   have HQ2:Hz (RxSt W w2 v' (runesBytes (l.take (i+1)))):=kz ⟨by rw [zf5 l i z (oz HZ),ByteArray.size_append,zhZ];exact hown,(oz HQ).b.grown hgrow (oz HQ).b.size (fun k hk =>zam (oz HQ).o k hk)⟩
   clear hown hgrow HQ
   go_wp2_with fail
   go_roundw
   case rel =>exact ⟨i+1,by omega,rfl,HQ2⟩
   case measure =>simp [intOf];omega
  ·have k1:¬ (i:Int) < (N:Int):=by omega
   have hiN:i=N:=by omega
   have hfull:runesBytes (l.take i)=runesBytes l:=by rw [List.take_of_length_le (by have:=oz HN;omega)]
   obtain ⟨va,vc,hv⟩:=zab (oz HQ).o
   have hcv:(convert 105 9 (.slice va (runesBytes (l.take i)).size vc)).run Tryz.prog wr=.ok (.string (runesBytes l)) wr:=by
    have h5:=own_text (oz HQ).o
    rw [hv] at h5
    rw [h5,hfull]
   have HB:=kz (oz HQ).b
   clear HQ hfull
   subst hv
   generalize (runesBytes (l.take i)).size=sz at *
   go_wp2_with fail
   go_ret
   exact ⟨rfl,oz HB⟩
end Go.Proofs.YtmdgejgokoadlaaGreatDoor
