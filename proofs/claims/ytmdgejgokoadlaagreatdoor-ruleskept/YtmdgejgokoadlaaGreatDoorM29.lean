/- Texts of this claim, one behind the other. -/
import Derived.Test.YtmdgejgokoadlaaGreatDoorM15
import Derived.Test.YtmdgejgokoadlaaGreatDoorM28
import Derived.Test.YtmdgejgokoadlaaGreatDoorM25
import Derived.Test.YtmdgejgokoadlaaGreatDoorM23
import Derived.Test.YtmdgejgokoadlaaGreatDoorM17
import Derived.Deep.MidRow
/- The reference's reader of rules: Parse, of no words. -/
namespace Go.Proofs.YtmdgejgokoadlaaGreatDoor
open Go.RowKit Go.Shelf
set_option linter.unusedVariables false
def Bx2 (w:World) (N:Nat):Prop:=Blk w N #[.slice none 0 0,.slice none 0 0,.slice none 0 0,.slice none 0 0,.slice none 0 0,.slice none 0 0,.slice none 0 0,.slice none 0 0,.slice none 0 0,.slice none 0 0,.slice none 0 0,.slice none 0 0,.slice none 0 0,.slice none 0 0,.slice none 0 0,.slice none 0 0,.slice none 0 0] 51∧Blk w (N+1) #[.int .i64 0,.int .i64 0,.int .i64 0] 53
theorem zfl (W:World):Bx2 ((W.alloc (.cells #[.slice none 0 0,.slice none 0 0,.slice none 0 0,.slice none 0 0,.slice none 0 0,.slice none 0 0,.slice none 0 0,.slice none 0 0,.slice none 0 0,.slice none 0 0,.slice none 0 0,.slice none 0 0,.slice none 0 0,.slice none 0 0,.slice none 0 0,.slice none 0 0,.slice none 0 0] 51)).alloc (.cells #[.int .i64 0,.int .i64 0,.int .i64 0] 53)) W.heap.size :=
 ⟨(Blk.new W _ _).alloc _,by have h:=Blk.new (W.alloc (.cells #[.slice none 0 0,.slice none 0 0,.slice none 0 0,.slice none 0 0,.slice none 0 0,.slice none 0 0,.slice none 0 0,.slice none 0 0,.slice none 0 0,.slice none 0 0,.slice none 0 0,.slice none 0 0,.slice none 0 0,.slice none 0 0,.slice none 0 0,.slice none 0 0,.slice none 0 0] 51)) #[.int .i64 0,.int .i64 0,.int .i64 0] 53;rw [World.size_alloc] at h;exact h⟩
theorem Bx2.below {w w':World} {N:Nat} (h:Bx2 w N) (hb:Below w.heap.size w w'):Bx2 w' N:=⟨h.1.below hb h.1.lt,h.2.below hb h.2.lt⟩
theorem zdg {w w1:World} {N:Nat} {cs:Array Value} {ty:TypeId} (h:Blk w1 N cs ty∧w.grownBy w1 (some N)) (i:Nat) (v:Value):Blk (w1.setCell ⟨N,i,none⟩ v) N (cs.setIfInBounds i v) ty∧w.grownBy (w1.setCell ⟨N,i,none⟩ v) (some N) :=
 ⟨h.1.set i v,zai h.2 (zad w1 N i v)⟩
theorem zfg (w:World) (row:Option Nat):w.grownBy w row:=⟨rfl,rfl,rfl,Nat.le_refl _,fun _ _ _ =>rfl⟩
theorem box17 {w:World} {N:Nat} {a0 a1 a2 a3 a4 a5 a6 a7 a8 a9 a10 a11 a12 a13 a14 a15 a16:Value} {ty:TypeId} (h:Blk w N #[a0,a1,a2,a3,a4,a5,a6,a7,a8,a9,a10,a11,a12,a13,a14,a15,a16] ty) (v0 v1 v2 v3 v4 v5 v6 v7 v8 v9 v10 v11 v12 v13 v14 v15 v16:Value):Blk (((((((((((((((((w.setCell ⟨N,0,none⟩ v0).setCell ⟨N,1,none⟩ v1).setCell ⟨N,2,none⟩ v2).setCell ⟨N,3,none⟩ v3).setCell ⟨N,4,none⟩ v4).setCell ⟨N,5,none⟩ v5).setCell ⟨N,6,none⟩ v6).setCell ⟨N,7,none⟩ v7).setCell ⟨N,8,none⟩ v8).setCell ⟨N,9,none⟩ v9).setCell ⟨N,10,none⟩ v10).setCell ⟨N,11,none⟩ v11).setCell ⟨N,12,none⟩ v12).setCell ⟨N,13,none⟩ v13).setCell ⟨N,14,none⟩ v14).setCell ⟨N,15,none⟩ v15).setCell ⟨N,16,none⟩ v16) N #[v0,v1,v2,v3,v4,v5,v6,v7,v8,v9,v10,v11,v12,v13,v14,v15,v16] ty∧w.grownBy (((((((((((((((((w.setCell ⟨N,0,none⟩ v0).setCell ⟨N,1,none⟩ v1).setCell ⟨N,2,none⟩ v2).setCell ⟨N,3,none⟩ v3).setCell ⟨N,4,none⟩ v4).setCell ⟨N,5,none⟩ v5).setCell ⟨N,6,none⟩ v6).setCell ⟨N,7,none⟩ v7).setCell ⟨N,8,none⟩ v8).setCell ⟨N,9,none⟩ v9).setCell ⟨N,10,none⟩ v10).setCell ⟨N,11,none⟩ v11).setCell ⟨N,12,none⟩ v12).setCell ⟨N,13,none⟩ v13).setCell ⟨N,14,none⟩ v14).setCell ⟨N,15,none⟩ v15).setCell ⟨N,16,none⟩ v16) (some N):=by
 have h:Blk w N #[a0,a1,a2,a3,a4,a5,a6,a7,a8,a9,a10,a11,a12,a13,a14,a15,a16] ty∧w.grownBy w (some N):=⟨h,zfg w _⟩
 have h:Blk (_:World) N #[v0,a1,a2,a3,a4,a5,a6,a7,a8,a9,a10,a11,a12,a13,a14,a15,a16] ty∧w.grownBy _ (some N):=zdg h 0 v0
 have h:Blk (_:World) N #[v0,v1,a2,a3,a4,a5,a6,a7,a8,a9,a10,a11,a12,a13,a14,a15,a16] ty∧w.grownBy _ (some N):=zdg h 1 v1
 have h:Blk (_:World) N #[v0,v1,v2,a3,a4,a5,a6,a7,a8,a9,a10,a11,a12,a13,a14,a15,a16] ty∧w.grownBy _ (some N):=zdg h 2 v2
 have h:Blk (_:World) N #[v0,v1,v2,v3,a4,a5,a6,a7,a8,a9,a10,a11,a12,a13,a14,a15,a16] ty∧w.grownBy _ (some N):=zdg h 3 v3
 have h:Blk (_:World) N #[v0,v1,v2,v3,v4,a5,a6,a7,a8,a9,a10,a11,a12,a13,a14,a15,a16] ty∧w.grownBy _ (some N):=zdg h 4 v4
 have h:Blk (_:World) N #[v0,v1,v2,v3,v4,v5,a6,a7,a8,a9,a10,a11,a12,a13,a14,a15,a16] ty∧w.grownBy _ (some N):=zdg h 5 v5
 have h:Blk (_:World) N #[v0,v1,v2,v3,v4,v5,v6,a7,a8,a9,a10,a11,a12,a13,a14,a15,a16] ty∧w.grownBy _ (some N):=zdg h 6 v6
 have h:Blk (_:World) N #[v0,v1,v2,v3,v4,v5,v6,v7,a8,a9,a10,a11,a12,a13,a14,a15,a16] ty∧w.grownBy _ (some N):=zdg h 7 v7
 have h:Blk (_:World) N #[v0,v1,v2,v3,v4,v5,v6,v7,v8,a9,a10,a11,a12,a13,a14,a15,a16] ty∧w.grownBy _ (some N):=zdg h 8 v8
 have h:Blk (_:World) N #[v0,v1,v2,v3,v4,v5,v6,v7,v8,v9,a10,a11,a12,a13,a14,a15,a16] ty∧w.grownBy _ (some N):=zdg h 9 v9
 have h:Blk (_:World) N #[v0,v1,v2,v3,v4,v5,v6,v7,v8,v9,v10,a11,a12,a13,a14,a15,a16] ty∧w.grownBy _ (some N):=zdg h 10 v10
 have h:Blk (_:World) N #[v0,v1,v2,v3,v4,v5,v6,v7,v8,v9,v10,v11,a12,a13,a14,a15,a16] ty∧w.grownBy _ (some N):=zdg h 11 v11
 have h:Blk (_:World) N #[v0,v1,v2,v3,v4,v5,v6,v7,v8,v9,v10,v11,v12,a13,a14,a15,a16] ty∧w.grownBy _ (some N):=zdg h 12 v12
 have h:Blk (_:World) N #[v0,v1,v2,v3,v4,v5,v6,v7,v8,v9,v10,v11,v12,v13,a14,a15,a16] ty∧w.grownBy _ (some N):=zdg h 13 v13
 have h:Blk (_:World) N #[v0,v1,v2,v3,v4,v5,v6,v7,v8,v9,v10,v11,v12,v13,v14,a15,a16] ty∧w.grownBy _ (some N):=zdg h 14 v14
 have h:Blk (_:World) N #[v0,v1,v2,v3,v4,v5,v6,v7,v8,v9,v10,v11,v12,v13,v14,v15,a16] ty∧w.grownBy _ (some N):=zdg h 15 v15
 have h:Blk (_:World) N #[v0,v1,v2,v3,v4,v5,v6,v7,v8,v9,v10,v11,v12,v13,v14,v15,v16] ty∧w.grownBy _ (some N):=zdg h 16 v16
 exact h
theorem box3 {w:World} {N:Nat} {a0 a1 a2:Value} {ty:TypeId} (h:Blk w N #[a0,a1,a2] ty) (p0 p1 p2:Value):Blk (((w.setCell ⟨N,0,none⟩ p0).setCell ⟨N,1,none⟩ p1).setCell ⟨N,2,none⟩ p2) N #[p0,p1,p2] ty∧w.grownBy (((w.setCell ⟨N,0,none⟩ p0).setCell ⟨N,1,none⟩ p1).setCell ⟨N,2,none⟩ p2) (some N):=by
 have h:Blk (_:World) N #[p0,a1,a2] ty∧w.grownBy _ (some N):=zdg ⟨h,zfg w _⟩ 0 p0
 have h:Blk (_:World) N #[p0,p1,a2] ty∧w.grownBy _ (some N):=zdg h 1 p1
 have h:Blk (_:World) N #[p0,p1,p2] ty∧w.grownBy _ (some N):=zdg h 2 p2
 exact h
structure Fin2 (w w':World) (N:Nat) (cs ds:Array Value):Prop where
 b1:Blk w' N cs 51
 b2:Blk w' (N+1) ds 53
 be:Below N w w'
 gr:∃ m,w.grownBy m (some N)∧m.grownBy w' (some (N+1))
theorem fin2 {w:World} {N:Nat} (h:Bx2 w N) (v0 v1 v2 v3 v4 v5 v6 v7 v8 v9 v10 v11 v12 v13 v14 v15 v16 p0 p1 p2:Value):Fin2 w ((((((((((((((((((((w.setCell ⟨N,0,none⟩ v0).setCell ⟨N,1,none⟩ v1).setCell ⟨N,2,none⟩ v2).setCell ⟨N,3,none⟩ v3).setCell ⟨N,4,none⟩ v4).setCell ⟨N,5,none⟩ v5).setCell ⟨N,6,none⟩ v6).setCell ⟨N,7,none⟩ v7).setCell ⟨N,8,none⟩ v8).setCell ⟨N,9,none⟩ v9).setCell ⟨N,10,none⟩ v10).setCell ⟨N,11,none⟩ v11).setCell ⟨N,12,none⟩ v12).setCell ⟨N,13,none⟩ v13).setCell ⟨N,14,none⟩ v14).setCell ⟨N,15,none⟩ v15).setCell ⟨N,16,none⟩ v16).setCell ⟨N+1,0,none⟩ p0).setCell ⟨N+1,1,none⟩ p1).setCell ⟨N+1,2,none⟩ p2) N #[v0,v1,v2,v3,v4,v5,v6,v7,v8,v9,v10,v11,v12,v13,v14,v15,v16] #[p0,p1,p2]:=by
 have h1:=box17 h.1 v0 v1 v2 v3 v4 v5 v6 v7 v8 v9 v10 v11 v12 v13 v14 v15 v16
 have hx:=h.2.kept h1.2 (fun e =>by have:=Option.some.inj e;omega)
 have hN:=h.1.lt
 generalize (((((((((((((((((w.setCell ⟨N,0,none⟩ v0).setCell ⟨N,1,none⟩ v1).setCell ⟨N,2,none⟩ v2).setCell ⟨N,3,none⟩ v3).setCell ⟨N,4,none⟩ v4).setCell ⟨N,5,none⟩ v5).setCell ⟨N,6,none⟩ v6).setCell ⟨N,7,none⟩ v7).setCell ⟨N,8,none⟩ v8).setCell ⟨N,9,none⟩ v9).setCell ⟨N,10,none⟩ v10).setCell ⟨N,11,none⟩ v11).setCell ⟨N,12,none⟩ v12).setCell ⟨N,13,none⟩ v13).setCell ⟨N,14,none⟩ v14).setCell ⟨N,15,none⟩ v15).setCell ⟨N,16,none⟩ v16)=m at *
 have h2:=box3 hx p0 p1 p2
 generalize ((m.setCell ⟨N+1,0,none⟩ p0).setCell ⟨N+1,1,none⟩ p1).setCell ⟨N+1,2,none⟩ p2=w' at *
 exact ⟨h1.1.kept h2.2 (fun e =>by have:=Option.some.inj e;omega),h2.1,((Below.refl N w).grown h1.2 (by omega) (fun k hk =>by have:=Option.some.inj hk;omega)).grown h2.2 (by have:=h1.2.size;omega) (fun k hk =>by have:=Option.some.inj hk;omega),m,h1.2,h2.2⟩
def zT:Value := .agg #[.slice none 0 0,.slice none 0 0,.slice none 0 0,.slice none 0 0,.slice none 0 0,.slice none 0 0,.slice none 0 0,.slice none 0 0,.slice none 0 0,.slice none 0 0,.slice none 0 0,.slice none 0 0,.slice none 0 0,.slice none 0 0,.slice none 0 0,.slice none 0 0,.slice none 0 0]
set_option maxRecDepth 100000 in
set_option maxHeartbeats 8000000 in
theorem rparse_no (s:ByteArray) (hs:s.size≤262144) (hok:(zan s).ok=false) (W:World) :
  Calls Tryz.prog 16 #[.string s] W fun e w' =>e=.returned (.tuple #[zT,.agg (atA (zan s).b (whL s (zan s).b)),.int .i64 (if (zan s).b < s.size then 20 else 21)])∧Below W.heap.size W w':=by
 have hmx:Tryz.prog.follows .mixedOrders=true:=by kernel_rfl
 have hb:=(zdO s).2
 have HW:Hz (∀ w,Calls Tryz.prog 45 #[.string s] w fun e w' =>e=.returned (.tuple #[.slice none 0 0,.int .i64 ((zan s).b:Nat),.int .i64 (if (zan s).b < s.size then 20 else 21)])∧Below w.heap.size w w'):=kz (fun w =>(zc1 s hs w).mono (fun e w' h =>⟨h.2.1 hok,h.2.2⟩))
 have HWH:Hz (∀ w,Calls Tryz.prog 46 #[.string s,.int .i64 ((zan s).b:Nat)] w fun e w' =>e=.returned (.agg (atA (zan s).b (whL s (zan s).b)))∧Below w.heap.size w w'):=kz (fun w =>zcM s (by omega) (zan s).b hb _ (.inr (.inr ⟨by omega,by omega,rfl⟩)) w)
 have hn:∃ n:Int,n=(if (zan s).b < s.size then 20 else 21)∧n≠3∧n≠0:=⟨_,rfl,by split <;> decide,by split <;> decide⟩
 obtain ⟨n,hn,hn3,hn0⟩:=hn
 rw [← hn] at HW ⊢
 have q3:(n == 3)=false:=by simpa using hn3
 have q0:(n == 0)=false:=by simpa using hn0
 generalize whL s (zan s).b=L at *
 generalize (zan s).b=b at *
 obtain ⟨L1,L2⟩:=L
 clear hok hn hn3 hn0 hb
 unfold zT
 go_enter Tryz.func16,Tryz.ntmps16
 go_wp2_with fail
 refine (oz HW _).mono ?_
 rintro e w1 ⟨rfl,hb1⟩
 have HX:Hz (Bx2 w1 W.heap.size):=kz ((zfl W).below hb1)
 have HB:Hz (Below W.heap.size W w1):=kz ((((Below.refl W.heap.size W).alloc (Nat.le_refl _) _).alloc (by simp) _).trans (hb1.mono (by simp;omega)))
 clear hb1
 go_wp2_with fail
 refine (oz HWH _).mono ?_
 rintro e w2 ⟨rfl,hb2⟩
 have HX2:Hz (Bx2 w2 W.heap.size):=kz ((oz HX).below hb2)
 have HB2:Hz (Below W.heap.size W w2):=kz ((oz HB).trans (hb2.mono (oz HB).size))
 clear hb2 HWH HW HX HB
 have x54:=(oz HX2).1
 have x56:=(oz HX2).2
 have e0:=x54.cell 0
 have f0:=x54.frozen 0
 have e1:=x54.cell 1
 have f1:=x54.frozen 1
 have e2:=x54.cell 2
 have f2:=x54.frozen 2
 have e3:=x54.cell 3
 have f3:=x54.frozen 3
 have e4:=x54.cell 4
 have f4:=x54.frozen 4
 have e5:=x54.cell 5
 have f5:=x54.frozen 5
 have e6:=x54.cell 6
 have f6:=x54.frozen 6
 have e7:=x54.cell 7
 have f7:=x54.frozen 7
 have e8:=x54.cell 8
 have f8:=x54.frozen 8
 have e9:=x54.cell 9
 have f9:=x54.frozen 9
 have e10:=x54.cell 10
 have f10:=x54.frozen 10
 have e11:=x54.cell 11
 have f11:=x54.frozen 11
 have e12:=x54.cell 12
 have f12:=x54.frozen 12
 have e13:=x54.cell 13
 have f13:=x54.frozen 13
 have e14:=x54.cell 14
 have f14:=x54.frozen 14
 have e15:=x54.cell 15
 have f15:=x54.frozen 15
 have e16:=x54.cell 16
 have f16:=x54.frozen 16
 have g0:=x56.cell 0
 have h0:=x56.frozen 0
 have g1:=x56.cell 1
 have h1:=x56.frozen 1
 have g2:=x56.cell 2
 have h2:=x56.frozen 2
 clear x54 x56
 go_wp2_with fail
 have K:=fin2 (oz HX2) (Value.slice none 0 0) (Value.slice none 0 0) (Value.slice none 0 0) (Value.slice none 0 0) (Value.slice none 0 0) (Value.slice none 0 0) (Value.slice none 0 0) (Value.slice none 0 0) (Value.slice none 0 0) (Value.slice none 0 0) (Value.slice none 0 0) (Value.slice none 0 0) (Value.slice none 0 0) (Value.slice none 0 0) (Value.slice none 0 0) (Value.slice none 0 0) (Value.slice none 0 0) (Value.int .i64 (b:Int)) (Value.int .i64 (L1:Int)) (Value.int .i64 (L2:Int))
 generalize ((((((((((((((((((((w2.setCell ⟨W.heap.size,0,none⟩ (Value.slice none 0 0)).setCell ⟨W.heap.size,1,none⟩ (Value.slice none 0 0)).setCell ⟨W.heap.size,2,none⟩ (Value.slice none 0 0)).setCell ⟨W.heap.size,3,none⟩ (Value.slice none 0 0)).setCell ⟨W.heap.size,4,none⟩ (Value.slice none 0 0)).setCell ⟨W.heap.size,5,none⟩ (Value.slice none 0 0)).setCell ⟨W.heap.size,6,none⟩ (Value.slice none 0 0)).setCell ⟨W.heap.size,7,none⟩ (Value.slice none 0 0)).setCell ⟨W.heap.size,8,none⟩ (Value.slice none 0 0)).setCell ⟨W.heap.size,9,none⟩ (Value.slice none 0 0)).setCell ⟨W.heap.size,10,none⟩ (Value.slice none 0 0)).setCell ⟨W.heap.size,11,none⟩ (Value.slice none 0 0)).setCell ⟨W.heap.size,12,none⟩ (Value.slice none 0 0)).setCell ⟨W.heap.size,13,none⟩ (Value.slice none 0 0)).setCell ⟨W.heap.size,14,none⟩ (Value.slice none 0 0)).setCell ⟨W.heap.size,15,none⟩ (Value.slice none 0 0)).setCell ⟨W.heap.size,16,none⟩ (Value.slice none 0 0)).setCell ⟨W.heap.size+1,0,none⟩ (Value.int .i64 (b:Int))).setCell ⟨W.heap.size+1,1,none⟩ (Value.int .i64 (L1:Int))).setCell ⟨W.heap.size+1,2,none⟩ (Value.int .i64 (L2:Int)))=w3 at K ⊢
 have r0:=K.b1.cell 0
 have r1:=K.b1.cell 1
 have r2:=K.b1.cell 2
 have r3:=K.b1.cell 3
 have r4:=K.b1.cell 4
 have r5:=K.b1.cell 5
 have r6:=K.b1.cell 6
 have r7:=K.b1.cell 7
 have r8:=K.b1.cell 8
 have r9:=K.b1.cell 9
 have r10:=K.b1.cell 10
 have r11:=K.b1.cell 11
 have r12:=K.b1.cell 12
 have r13:=K.b1.cell 13
 have r14:=K.b1.cell 14
 have r15:=K.b1.cell 15
 have r16:=K.b1.cell 16
 have s0:=K.b2.cell 0
 have s1:=K.b2.cell 1
 have s2:=K.b2.cell 2
 have HK:=kz K
 clear K e0 f0 e1 f1 e2 f2 e3 f3 e4 f4 e5 f5 e6 f6 e7 f7 e8 f8 e9 f9 e10 f10 e11 f11 e12 f12 e13 f13 e14 f14 e15 f15 e16 f16 g0 g1 g2 h0 h1 h2
 exact bodyPost_ret (v := .tuple #[.agg #[Value.slice none 0 0,Value.slice none 0 0,Value.slice none 0 0,Value.slice none 0 0,Value.slice none 0 0,Value.slice none 0 0,Value.slice none 0 0,Value.slice none 0 0,Value.slice none 0 0,Value.slice none 0 0,Value.slice none 0 0,Value.slice none 0 0,Value.slice none 0 0,Value.slice none 0 0,Value.slice none 0 0,Value.slice none 0 0,Value.slice none 0 0],.agg #[Value.int .i64 (b:Int),Value.int .i64 (L1:Int),Value.int .i64 (L2:Int)],.int .i64 n]) (by simp [results,Tryz.results16,go_sem,r0,r1,r2,r3,r4,r5,r6,r7,r8,r9,r10,r11,r12,r13,r14,r15,r16,s0,s1,s2]) rfl ⟨rfl,(oz HB2).trans (oz HK).be⟩
def zjK (zs:List W8):List Value:=zs.flatMap Go.Proofs.YtmdgejgokoadlaaGreatDoor.r6
theorem zhL (ws:List Wd):zjK (ws.map w8)=encR ws:=by
 unfold zjK encR
 rw [List.flatMap_map]
 rfl
theorem zfh (x:W8) (zs:List W8):zjK (x::zs)=r6 x++zjK zs:=rfl
theorem ziP (zs:List W8):(zjK zs).length=zs.length*6:=by
 induction zs with
 | nil =>rfl
 | cons x zs ih =>rw [zfh,List.length_append,ih,List.length_cons];show 6+_=_;omega
theorem encR6_at (zs:List W8) (j:Nat) (x:W8) (h:zs[j]?=some x):∀ i u,(r6 x)[i]?=some u→(zjK zs)[j*6+i]?=some u:=by
 induction zs generalizing j with
 | nil =>simp at h
 | cons y zs ih =>
  intro i u hu
  have hi:i < 6:=(List.getElem?_eq_some_iff.1 hu).1
  cases j with
  | zero =>
   obtain rfl:y=x:=by simpa using h
   rw [zfh,Nat.zero_mul,Nat.zero_add,List.getElem?_append_left (by exact hi)]
   exact hu
  | succ j =>
   have h':zs[j]?=some x:=by simpa using h
   rw [zfh,List.getElem?_append_right (by show 6≤_;omega),show (j+1)*6+i - (r6 y).length=j*6+i by show (j+1)*6+i - 6=_;omega]
   exact ih j h' i u hu
def RowR (W:World) (a:Option Addr) (zs:List W8):Prop:=0 < zs.length→∃ g,a=some ⟨g,0,none⟩∧g < W.heap.size∧∀ j x,zs[j]?=some x→∀ i u,(r6 x)[i]?=some u→W.cell? ⟨g,j*6+i,none⟩=some u
theorem zhz {W:World} {base n:Nat} {v:Value} {zs:List W8} (h:W.ownsRow base 123 6 v n (zjK zs)):∃ a c,v=.slice a zs.length c∧RowR W a zs∧n=zs.length∧zs.length≤c:=by
 obtain ⟨hl,h⟩:=h
 rw [ziP] at hl
 have hn:n=zs.length:=by omega
 subst hn
 rcases h with ⟨rfl,h0⟩ | ⟨g,cap,cur,rfl,hb,hg,h1,h2,h3,h4⟩
 ·exact ⟨none,0,by rw [h0],fun h =>by omega,rfl,by omega⟩
 ·refine ⟨_,cap,rfl,fun h0 =>⟨g,rfl,(Array.getElem?_eq_some_iff.1 hg).1,fun j x hj i u hu =>?_⟩,rfl,h1⟩
  have hbk:Blk W g cur 123:=hg
  have e:=encR6_at zs j x hj i u hu
  rw [← h4] at e
  have hjl:=(List.getElem?_eq_some_iff.1 hj).1
  have hil:i < 6:=(List.getElem?_eq_some_iff.1 hu).1
  rw [List.getElem?_take,if_pos (by omega)] at e
  rw [Blk.cell hbk]
  simpa using e
theorem lsR_nil:lsR TV0 (nils17.drop 17)=[Ln.mk 71 2 0 [],Ln.mk 73 2 0 [],Ln.mk 93 2 0 [],Ln.mk 96 3 0 [],Ln.mk 75 2 0 [],Ln.mk 75 2 0 [],Ln.mk 73 2 0 [],Ln.mk 73 2 0 [],Ln.mk 3 1 0 [],Ln.mk 3 1 0 [],Ln.mk 3 1 0 [],Ln.mk 3 1 0 [],Ln.mk 3 1 0 [],Ln.mk 3 1 0 [],Ln.mk 3 1 0 [],Ln.mk 3 1 0 [],Ln.mk 3 1 0 []]:=rfl
theorem nilR_all (l:Ln) (i:Nat) (h:(lsR TV0 (nils17.drop 17))[i]?=some l):l.n=0∧l.xs=[]:=by
 have hm:=List.mem_of_getElem? h
 rw [lsR_nil] at hm
 simp only [List.mem_cons,List.not_mem_nil,or_false] at hm
 rcases hm with rfl | rfl | rfl | rfl | rfl | rfl | rfl | rfl | rfl | rfl | rfl | rfl | rfl | rfl | rfl | rfl | rfl <;> exact ⟨rfl,rfl⟩
theorem zhu {w:World} {ws:List W8} {a:Option Addr} {c:Nat} (hrow:RowR w a ws) (hcap:ws.length≤c) (hn:ws.length≤1000000) :
  ∃ g,zfR (w.alloc (.cells #[.slice a ws.length c,.int .i64 0,.int .i64 (-1),.slice none 0 0,.slice none 0 0,.slice none 0 0,.slice none 0 0,.slice none 0 0,.slice none 0 0,.slice none 0 0,.slice none 0 0,.slice none 0 0,.slice none 0 0,.slice none 0 0,.slice none 0 0,.slice none 0 0,.slice none 0 0,.slice none 0 0,.slice none 0 0,.slice none 0 0] 121)) (w.alloc (.cells #[.slice a ws.length c,.int .i64 0,.int .i64 (-1),.slice none 0 0,.slice none 0 0,.slice none 0 0,.slice none 0 0,.slice none 0 0,.slice none 0 0,.slice none 0 0,.slice none 0 0,.slice none 0 0,.slice none 0 0,.slice none 0 0,.slice none 0 0,.slice none 0 0,.slice none 0 0,.slice none 0 0,.slice none 0 0,.slice none 0 0] 121)) (w.heap.size+1) w.heap.size g a c ws 0 (-1) TV0:=by
 have bR:=Blk.new w #[.slice a ws.length c,.int .i64 0,.int .i64 (-1),.slice none 0 0,.slice none 0 0,.slice none 0 0,.slice none 0 0,.slice none 0 0,.slice none 0 0,.slice none 0 0,.slice none 0 0,.slice none 0 0,.slice none 0 0,.slice none 0 0,.slice none 0 0,.slice none 0 0,.slice none 0 0,.slice none 0 0,.slice none 0 0,.slice none 0 0] 121
 have hown:∀ (i:Nat) (v:Value) (l:Ln),nils17[i]?=some v→(lsR TV0 (nils17.drop 17))[i]?=some l→(w.alloc (.cells #[.slice a ws.length c,.int .i64 0,.int .i64 (-1),.slice none 0 0,.slice none 0 0,.slice none 0 0,.slice none 0 0,.slice none 0 0,.slice none 0 0,.slice none 0 0,.slice none 0 0,.slice none 0 0,.slice none 0 0,.slice none 0 0,.slice none 0 0,.slice none 0 0,.slice none 0 0,.slice none 0 0,.slice none 0 0,.slice none 0 0] 121)).ownsRow (w.heap.size+1) l.E l.sz v l.n l.xs:=fun i v l hv hl =>by
  obtain rfl:=zfK v i hv
  obtain ⟨h1,h2⟩:=nilR_all l i hl
  rw [h1,h2]
  exact World.ownsRow_nil _ _ _ _
 have hap:∀ (i j:Nat) (v u:Value),i≠j→nils17[i]?=some v→nils17[j]?=some u→v.ownBlock=none∨v.ownBlock≠u.ownBlock:=fun i j v u _ hv _ =>by
  obtain rfl:=zfK v i hv
  exact .inl rfl
 rcases Nat.eq_zero_or_pos ws.length with h0 | h0
 ·exact ⟨0,nils17,⟨Nat.zero_le _,hn,hcap,fun h =>by omega,fun j x hx =>by rw [List.length_eq_zero_iff.1 h0] at hx;simp at hx,by decide,rfl,bR,hown,hap,by omega,by simp⟩,Fr.refl _ _ _ _⟩
 ·obtain ⟨g,ha,hg,hcs⟩:=hrow h0
  exact ⟨g,nils17,⟨Nat.zero_le _,hn,hcap,fun _ =>⟨ha,by omega,by omega⟩,fun j x hx i u hu =>(World.grownBy_alloc w _ none).cell (a:=⟨g,j*6+i,none⟩) (hcs j x hx i u hu) (by simp),by decide,rfl,bR,hown,hap,by omega,by simp⟩,Fr.refl _ _ _ _⟩
def measR (w:World) (R N:Nat):Nat:=match w.cell? ⟨R,2,none⟩,w.cell? ⟨R,1,none⟩ with
 | some (.int _ b),some (.int _ k) =>if b < 0 then N+1 - k.toNat else 0
 | _,_ =>0
theorem zc4 {W:World} {lo R g:Nat} {a:Option Addr} {c:Nat} {ws:List W8} {k:Nat} {bi:Int} {vs:List Value} {ls:List Ln} (h:RrAt W lo R g a c ws k bi vs ls) (N:Nat):measR W R N=if bi < 0 then N+1 - k else 0:=by
 unfold measR
 rw [h.cells.2.1,h.cells.2.2]
 rfl
def RpAt (s:ByteArray) (W w':World) (e:Ending) (P:Ps):Prop:=match P.bad with
 | some f =>e=.returned (.tuple #[zT,.agg #[.int .i64 f.b,.int .i64 f.l,.int .i64 f.c],.int .i64 f.why])
 | none => ∃ (vs:List Value) (lo:Nat),e=.returned (.tuple #[.agg (vs.take 17).toArray,.agg #[.int .i64 0,.int .i64 0,.int .i64 0],.int .i64 0])∧W.heap.size≤lo∧17≤vs.length∧Lst w' lo vs (lsR P.T (vs.drop 17))
theorem zi5 (s:ByteArray) (j:Nat) (x:W8) (h:(zcI s)[j]?=some x):∃ b:Nat,b≤s.size∧x.b=b∧x.l=((whL s b).1:Nat)∧x.c=((whL s b).2:Nat):=by
 obtain ⟨y,hy,rfl⟩:=List.mem_map.1 (List.mem_of_getElem? h)
 have hw:=(zdO s).1 y hy
 have h1:=hw.lc
 refine ⟨y.b,Nat.le_of_lt hw.lt,rfl, ?_, ?_⟩
 ·show ((y.l:Nat):Int)=_;rw [← h1]
 ·show ((y.c:Nat):Int)=_;rw [← h1]
theorem zf0 (vs:List Value) (h:17≤vs.length):∃ v0 v1 v2 v3 v4 v5 v6 v7 v8 v9 v10 v11 v12 v13 v14 v15 v16 us,vs=v0::v1::v2::v3::v4::v5::v6::v7::v8::v9::v10::v11::v12::v13::v14::v15::v16::us:=by
 obtain _ | ⟨v0,vs⟩:=vs
 ·simp at h
 obtain _ | ⟨v1,vs⟩:=vs
 ·simp at h
 obtain _ | ⟨v2,vs⟩:=vs
 ·simp at h
 obtain _ | ⟨v3,vs⟩:=vs
 ·simp at h
 obtain _ | ⟨v4,vs⟩:=vs
 ·simp at h
 obtain _ | ⟨v5,vs⟩:=vs
 ·simp at h
 obtain _ | ⟨v6,vs⟩:=vs
 ·simp at h
 obtain _ | ⟨v7,vs⟩:=vs
 ·simp at h
 obtain _ | ⟨v8,vs⟩:=vs
 ·simp at h
 obtain _ | ⟨v9,vs⟩:=vs
 ·simp at h
 obtain _ | ⟨v10,vs⟩:=vs
 ·simp at h
 obtain _ | ⟨v11,vs⟩:=vs
 ·simp at h
 obtain _ | ⟨v12,vs⟩:=vs
 ·simp at h
 obtain _ | ⟨v13,vs⟩:=vs
 ·simp at h
 obtain _ | ⟨v14,vs⟩:=vs
 ·simp at h
 obtain _ | ⟨v15,vs⟩:=vs
 ·simp at h
 obtain _ | ⟨v16,vs⟩:=vs
 ·simp at h
 exact ⟨v0,v1,v2,v3,v4,v5,v6,v7,v8,v9,v10,v11,v12,v13,v14,v15,v16,vs,rfl⟩
theorem own_sl {W:World} {lo E sz n:Nat} {v:Value} {xs:List Value} (h:W.ownsRow lo E sz v n xs):∃ a m c,v=.slice a m c:=by
 obtain ⟨a,c,e⟩:=zab h
 exact ⟨a,_,c,e⟩
theorem RrAt.lst {W:World} {lo R g:Nat} {a:Option Addr} {c:Nat} {ws:List W8} {k:Nat} {bi:Int} {vs:List Value} {ls:List Ln} (h:RrAt W lo R g a c ws k bi vs ls):Lst W lo vs ls:=⟨h.ll,h.own,h.apart⟩
theorem zeV {A w w':World} {N lo R:Nat} (h:Below N A w) (hf:Fr lo R R w w') (h1:N≤R) (h2:N≤lo):Below N A w' :=
 h.trans ⟨hf.os,hf.tape,hf.output,hf.size,fun i hi =>hf.block i (by omega) (by omega) (by omega)⟩
def LpI (ws:List W8) (eb el ec:Int) (F:Ps) (bi:Int) (k:Nat) (T:TV):Prop:=(bi = -1∧∃ f,RgSt ws eb el ec F f k none T)∨(∃ j:Nat,j≤ws.length∧bi=j∧F.bad=some (zeA ws j eb el ec))
theorem LpI.next {ws:List W8} {eb el ec:Int} {F:Ps} {f k:Nat} {x:W8} {T:TV} {b2:Int} (h:RgSt ws eb el ec F f k none T) (hx:ws[k]?=some x) (hr:zaB x.S≠0) (hB:BadE ws eb el ec b2 (zau ws eb el ec k x T).bad):LpI ws eb el ec F b2 (zau ws eb el ec k x T).k (zau ws eb el ec k x T).T:=by
 obtain ⟨f',hn⟩:=h.next hx hr
 cases hb:(zau ws eb el ec k x T).bad with
 | none =>
  rw [hb] at hB hn
  exact .inl ⟨hB,f',hn⟩
 | some z =>
  rw [hb] at hB hn
  obtain ⟨j,hj,e,ez⟩:=hB
  exact .inr ⟨j,hj,e,by rw [hn.stop (.inl (by simp)),ez]⟩
theorem LpI.no {ws:List W8} {eb el ec:Int} {F:Ps} {f k k':Nat} {x:W8} {T:TV} (h:RgSt ws eb el ec F f k none T) (hx:ws[k]?=some x) (hr:zaB x.S=0):LpI ws eb el ec F k k' T :=
 .inr ⟨k,h.le,rfl,by rw [h.no hx hr]⟩
theorem Bx2.fr {w w':World} {N lo R:Nat} (h:Bx2 w N) (hf:Fr lo R R w w') (h1:N+1 < lo) (h2:N+1 < R):Bx2 w' N :=
 ⟨(hf.block N (by omega) (by omega) (by omega)).trans h.1,(hf.block (N+1) (by omega) (by omega) (by omega)).trans h.2⟩
theorem Fin2.lst {w w':World} {N lo:Nat} {cs ds:Array Value} {vs:List Value} {ls:List Ln} (h:Fin2 w w' N cs ds) (hl:Lst w lo vs ls) (hN:N+1 < lo):Lst w' lo vs ls:=by
 obtain ⟨m,h1,h2⟩:=h.gr
 exact (hl.kept h1 (fun b e =>by have:=Option.some.inj e;omega)).kept h2 (fun b e =>by have:=Option.some.inj e;omega)
theorem zaQ (N:Nat):∀ (vs:List Value) (o:Nat) (w:World),w.grownBy (w.setCells N o vs) (some N)
 | [],_,w =>zfg w _
 | v::r,o,w =>zai (zad w N o v) (zaQ N r (o+1) _)
theorem zfp {N:Nat} {ty:TypeId}:∀ (vs pre rest:List Value) (w:World),rest.length=vs.length→Blk w N (pre++rest).toArray ty→Blk (w.setCells N pre.length vs) N (pre++vs).toArray ty
 | [],pre,rest,w,hl,h =>by
  obtain rfl:=List.length_eq_zero_iff.1 hl
  exact h
 | v::r,pre,rest,w,hl,h =>by
  obtain _ | ⟨x,rest⟩:=rest
  ·simp at hl
  have h2:=h.set pre.length v
  have e:((pre++x::rest).toArray).setIfInBounds pre.length v=((pre++[v])++rest).toArray:=by
   simp
  rw [e] at h2
  have h3:=zfp r (pre++[v]) rest _ (by simpa using hl) h2
  rw [List.length_append,List.append_assoc] at h3
  exact h3
theorem zh2 {w:World} {N:Nat} {cs:Array Value} {ty:TypeId} (h:Blk w N cs ty) (vs:List Value) (hl:cs.size=vs.length):Blk (w.setCells N 0 vs) N vs.toArray ty:=by
 have:=zfp vs [] cs.toList w (by simpa using hl) (by simpa using h)
 simpa using this
theorem blk_there {w:World} {N:Nat} {cs:Array Value} {ty:TypeId} (h:Blk w N cs ty) (n:Nat) (hn:n≤cs.size):w.there N 0 n:=fun j hj =>by
 rw [Nat.zero_add]
 refine ⟨?_,h.frozen j⟩
 rw [h.cell j,Array.getElem?_eq_getElem (by omega)]
 rfl
theorem fin2s {w:World} {N:Nat} (h:Bx2 w N) (cs:List Value) (hc:cs.length=17) (p0 p1 p2:Value):Fin2 w ((((w.setCells N 0 cs).setCell ⟨N+1,0,none⟩ p0).setCell ⟨N+1,1,none⟩ p1).setCell ⟨N+1,2,none⟩ p2) N cs.toArray #[p0,p1,p2]:=by
 have h1:=zh2 h.1 cs (by rw [hc];rfl)
 have hg:=zaQ N cs 0 w
 have hx:=h.2.kept hg (fun e =>by have:=Option.some.inj e;omega)
 have hN:=h.1.lt
 generalize w.setCells N 0 cs=m at *
 have h2:=box3 hx p0 p1 p2
 generalize ((m.setCell ⟨N+1,0,none⟩ p0).setCell ⟨N+1,1,none⟩ p1).setCell ⟨N+1,2,none⟩ p2=w' at *
 exact ⟨h1.kept h2.2 (fun e =>by have:=Option.some.inj e;omega),h2.1,((Below.refl N w).grown hg (by omega) (fun k hk =>by have:=Option.some.inj hk;omega)).grown h2.2 (by have:=hg.size;omega) (fun k hk =>by have:=Option.some.inj hk;omega),m,hg,h2.2⟩
theorem rr_range {W:World} {lo R g:Nat} {a:Option Addr} {c:Nat} {ws:List W8} {k:Nat} {bi:Int} {vs:List Value} {ls:List Ln} (h:RrAt W lo R g a c ws k bi vs ls):W.rangeAt R 3 (vs.take 17):=fun j v hv =>by
 have hj:j < 17:=by have:=(List.getElem?_eq_some_iff.1 hv).1;simp at this;omega
 rw [List.getElem?_take,if_pos hj] at hv
 exact h.cell hj hv
theorem rr_one {W:World} {lo:Nat} {vs:List Value} {ls:List Ln} (h:Lst W lo vs ls):∀ v ∈ vs,v.oneCell'=true:=fun v hv =>by
 obtain ⟨i,hi⟩:=List.mem_iff_getElem?.1 hv
 obtain ⟨l,hl⟩:∃ l,ls[i]?=some l:=⟨_,List.getElem?_eq_getElem (by rw [h.ll];exact (List.getElem?_eq_some_iff.1 hi).1)⟩
 obtain ⟨b,m,y,rfl⟩:=own_sl (h.own i v l hi hl)
 rfl
theorem load_text {ops:Array Oper} {rest:List Oper} {op:Oper} {a:Act} {w:World} {Q:Exit→Act→World→Prop} (hgd:op.guard=none) (x:Operand) (ho:op.op=.load 51 x) (b o:Nat) (hx:a.eval x=.pointer (some ⟨b,o,none⟩)) (cs:List Value) (hc:w.rangeAt b o cs) (hl:cs.length=17) (h:wpList Tryz.prog ops Q rest (a.put op.dst (.agg cs.toArray)) w):wpList Tryz.prog ops Q (op::rest) a w :=
 wpList_load_mid hgd _ x ho b o hx cs _ hc Tryz.underlying51 rfl (by rw [hl];kernel_rfl) h
theorem ze2 {ops:Array Oper} {rest:List Oper} {op:Oper} {a:Act} {w:World} {Q:Exit→Act→World→Prop} (hgd:op.guard=none) (x y:Operand) (ho:op.op=.store 51 x y) (b:Nat) (cs ds:List Value) (hx:a.eval x=.pointer (some ⟨b,0,none⟩)) (hy:a.eval y=.agg cs.toArray) (hb:Blk w b ds.toArray 51) (hd:ds.length=17) (hl:cs.length=17) (h1:∀ v ∈ cs,v.oneCell'=true) (h:wpList Tryz.prog ops Q rest (a.put op.dst undef) (w.setCells b 0 cs)):wpList Tryz.prog ops Q (op::rest) a w :=
 wpList_store_mid hgd _ x y ho b 0 cs.toArray hx hy (blk_there hb _ (by simp;omega)) (by rw [List.size_toArray,hl];kernel_rfl) (all_oneCell_toArray h1) h
theorem var_text {w:World} {b:Nat} {cs:List Value} (hb:Blk w b cs.toArray 51) (hl:cs.length=17):(loadVar 51 ⟨b,0,none⟩).run Tryz.prog w=.ok (.agg cs.toArray) w :=
 run_loadVar_row w b _ _ cs.toArray _ _ hb Tryz.underlying51 rfl (by rw [List.size_toArray,hl];kernel_rfl)
theorem var_at {w:World} {b:Nat} {p0 p1 p2:Value} (hb:Blk w b #[p0,p1,p2] 53):(loadVar 53 ⟨b,0,none⟩).run Tryz.prog w=.ok (.agg #[p0,p1,p2]) w :=
 run_loadVar_row w b _ _ #[p0,p1,p2] _ _ hb Tryz.underlying53 rfl (by kernel_rfl)
set_option maxRecDepth 100000 in
set_option maxHeartbeats 8000000 in
theorem zlj (s:ByteArray) (hs:s.size≤262144) (hok:(zan s).ok=true) (hQ:(zbP s).bad=none) (W:World) :
  Calls Tryz.prog 16 #[.string s] W fun e w' =>RpAt s W w' e (zbP s)∧Below W.heap.size W w':=by
 have hmx:Tryz.prog.follows .mixedOrders=true:=by kernel_rfl
 have HN:=kz (zjX s hs).1
 have HLN:=kz (zfF s hs)
 have HF:Hz (RgSt (zcI s) (s.size:Nat) (zcl s) (zcm s) (zbP s) ((zcI s).length+1) 0 none TV0):=kz ⟨rfl,by omega,Nat.zero_le _,zi1⟩
 have HW:Hz (∀ w,Calls Tryz.prog 45 #[.string s] w fun e w' => ∃ a c,e=.returned (.tuple #[.slice a (zcI s).length c,.int .i64 (-1),.int .i64 0])∧RowR w' a (zcI s)∧(zcI s).length≤c∧Below w.heap.size w w'):=kz (fun w =>(zc1 s hs w).mono (fun e w' h =>by
  obtain ⟨v,he,ho⟩:=h.1 hok
  rw [← zhL] at ho
  obtain ⟨a,c,rfl,h1,h2,h3⟩:=zhz ho
  exact ⟨a,c,he,h1,h3,h.2.2⟩))
 have HWH:Hz (∀ (b:Nat),b≤s.size→∀ w,Calls Tryz.prog 46 #[.string s,.int .i64 (b:Nat)] w fun e w' =>e=.returned (.agg #[.int .i64 (b:Nat),.int .i64 ((whL s b).1:Nat),.int .i64 ((whL s b).2:Nat)])∧Below w.heap.size w w'):=kz (fun b hb w =>zcM s (by omega) b hb _ (.inr (.inr ⟨by omega,by omega,rfl⟩)) w)
 have HWS:=kz (zi5 s)
 have HQ:=kz hQ
 clear hQ
 generalize zbP s=F at *
 clear hok
 go_enter Tryz.func16,Tryz.ntmps16
 go_wp2_with fail
 refine (oz HW _).mono ?_
 rintro e w1 ⟨a,c,rfl,hrow,hcap,hb1⟩
 have HX:Hz (Bx2 w1 W.heap.size):=kz ((zfl W).below hb1)
 have HB:Hz (Below W.heap.size W w1):=kz ((((Below.refl W.heap.size W).alloc (Nat.le_refl _) _).alloc (by simp) _).trans (hb1.mono (by simp;omega)))
 have HROW:=kz hrow
 have HCAP:=kz hcap
 clear hrow hcap hb1 HW
 go_wp2_with fail
 have hsz:W.heap.size+1 < w1.heap.size:=(oz HX).2.lt
 generalize hws:zcI s=ws at *
 obtain ⟨g,hst⟩:=zhu (oz HROW) (oz HCAP) (by have:=oz HLN;omega)
 have HX3:Hz (Bx2 (w1.alloc (.cells #[.slice a ws.length c,.int .i64 0,.int .i64 (-1),.slice none 0 0,.slice none 0 0,.slice none 0 0,.slice none 0 0,.slice none 0 0,.slice none 0 0,.slice none 0 0,.slice none 0 0,.slice none 0 0,.slice none 0 0,.slice none 0 0,.slice none 0 0,.slice none 0 0,.slice none 0 0,.slice none 0 0,.slice none 0 0,.slice none 0 0] 121)) W.heap.size):=kz ⟨(oz HX).1.alloc _,(oz HX).2.alloc _⟩
 have HB3:Hz (Below W.heap.size W (w1.alloc (.cells #[.slice a ws.length c,.int .i64 0,.int .i64 (-1),.slice none 0 0,.slice none 0 0,.slice none 0 0,.slice none 0 0,.slice none 0 0,.slice none 0 0,.slice none 0 0,.slice none 0 0,.slice none 0 0,.slice none 0 0,.slice none 0 0,.slice none 0 0,.slice none 0 0,.slice none 0 0,.slice none 0 0,.slice none 0 0,.slice none 0 0] 121))):=kz ((oz HB).alloc (oz HB).size _)
 have hl3:(w1.alloc (.cells #[.slice a ws.length c,.int .i64 0,.int .i64 (-1),.slice none 0 0,.slice none 0 0,.slice none 0 0,.slice none 0 0,.slice none 0 0,.slice none 0 0,.slice none 0 0,.slice none 0 0,.slice none 0 0,.slice none 0 0,.slice none 0 0,.slice none 0 0,.slice none 0 0,.slice none 0 0,.slice none 0 0,.slice none 0 0,.slice none 0 0] 121)).heap.size=w1.heap.size+1:=by simp
 generalize w1.alloc (.cells #[.slice a ws.length c,.int .i64 0,.int .i64 (-1),.slice none 0 0,.slice none 0 0,.slice none 0 0,.slice none 0 0,.slice none 0 0,.slice none 0 0,.slice none 0 0,.slice none 0 0,.slice none 0 0,.slice none 0 0,.slice none 0 0,.slice none 0 0,.slice none 0 0,.slice none 0 0,.slice none 0 0,.slice none 0 0,.slice none 0 0] 121)=W3 at *
 obtain ⟨R,hR⟩:∃ R,R=w1.heap.size:=⟨_,rfl⟩
 rw [← hR] at hst hl3 hsz ⊢
 have HST:=kz hst
 have HL0:Hz (LpI ws (s.size:Nat) (zcl s) (zcm s) F (-1) 0 TV0):=kz (.inl ⟨rfl,_,oz HF⟩)
 clear hst HF HX HB HROW HCAP hR hws
 go_loopw [30,31,32,33,34,35,36,37,38,39,40,41,42,43,44,45] (fun _ _ _ _ _ _ _ _ _ _ _ _ _ _ _ _ wr => ∃ (k:Nat) (bi:Int) (T:TV),Hz (LpI ws (s.size:Nat) (zcl s) (zcm s) F bi k T)∧Hz (zfR W3 wr (R+1) R g a c ws k bi T))
  (fun _ _ _ _ _ _ _ _ _ _ _ _ _ _ _ _ wr =>measR wr R ws.length)
 case atStart =>exact ⟨0, -1,TV0,HL0,HST⟩
 case round =>
  obtain ⟨k,bi,T,HL,HK0⟩:=hrel
  clear HL0 HST
  obtain ⟨c0,c1,c2⟩:=(oz HK0).choose_spec.1.cells
  have HM:=kz (zc4 (oz HK0).choose_spec.1 ws.length)
  have hkn:=(oz HK0).choose_spec.1.kn
  rcases oz HL with ⟨rfl,f,hg⟩ | ⟨j,hj,rfl,hFb⟩
  ·cases hx:ws[k]? with
   | none =>
    have HFE:=kz (hg.stop (.inr hx))
    have n1:¬ ((k:Nat):Int) < (ws.length:Int):=by have:=List.getElem?_eq_none_iff.1 hx;omega
    have n2:decide (k < ws.length)=false:=decide_eq_false (by have:=List.getElem?_eq_none_iff.1 hx;omega)
    obtain ⟨vs,hat,hfr⟩:=oz HK0
    have HX2:Hz (Bx2 wr W.heap.size):=kz ((oz HX3).fr hfr (by omega) (by omega))
    have HB2:Hz (Below W.heap.size W wr):=kz (zeV (oz HB3) hfr (by omega) (by omega))
    have hlv:(vs.take 17).length=17:=by rw [List.length_take];have:=hat.lv;omega
    have HLS:=kz (And.intro hat.lv hat.lst)
    have hrg:=rr_range hat
    have hone:=fun v (hv:v ∈ vs.take 17) =>rr_one hat.lst v (List.mem_of_mem_take hv)
    obtain ⟨cs,hcs⟩:∃ cs,cs=vs.take 17:=⟨_,rfl⟩
    rw [← hcs] at hrg hone hlv
    have hk2:=(oz HX2).2.kept (zaQ W.heap.size cs 0 wr) (fun e =>by have:=Option.some.inj e;omega)
    have g0:=hk2.cell 0
    have h0:=hk2.frozen 0
    have g1:=hk2.cell 1
    have h1:=hk2.frozen 1
    have g2:=hk2.cell 2
    have h2:=hk2.frozen 2
    have HCS:=kz hcs
    have HLV:=kz hlv
    have HRG:=kz hrg
    have HON:=kz hone
    clear hx hg HL hkn HM hat hfr HK0 hone hk2 hcs hlv hrg
    have q0:((-1:Int) == (ws.length:Int))=false:=by simp
    go_wp2_with (first | (refine load_text rfl _ rfl R 3 rfl cs (oz HRG) (oz HLV) ?_) | (refine ze2 rfl _ _ rfl W.heap.size cs [.slice none 0 0,.slice none 0 0,.slice none 0 0,.slice none 0 0,.slice none 0 0,.slice none 0 0,.slice none 0 0,.slice none 0 0,.slice none 0 0,.slice none 0 0,.slice none 0 0,.slice none 0 0,.slice none 0 0,.slice none 0 0,.slice none 0 0,.slice none 0 0,.slice none 0 0] rfl rfl (oz HX2).1 rfl (oz HLV) (oz HON) ?_))
    have K:=fin2s (oz HX2) cs (oz HLV) (Value.int .i64 0) (Value.int .i64 0) (Value.int .i64 0)
    generalize (((wr.setCells W.heap.size 0 cs).setCell ⟨W.heap.size+1,0,none⟩ (Value.int .i64 0)).setCell ⟨W.heap.size+1,1,none⟩ (Value.int .i64 0)).setCell ⟨W.heap.size+1,2,none⟩ (Value.int .i64 0)=w3 at K ⊢
    have rl:=var_text K.b1 (oz HLV)
    have rl2:=var_at K.b2
    have HK:=kz K
    clear K g0 g1 g2 h0 h1 h2
    exact bodyPost_ret (v := .tuple #[.agg cs.toArray,.agg #[Value.int .i64 0,Value.int .i64 0,Value.int .i64 0],.int .i64 0]) (by simp [results,Tryz.results16,asAddr,rl,rl2]) rfl ⟨by unfold RpAt;rw [oz HFE];exact ⟨vs,R+1,by rw [oz HCS],by omega,(oz HLS).1,(oz HK).lst (oz HLS).2 (by omega)⟩,(oz HB2).trans (oz HK).be⟩
   | some x =>
    have hlt:=(List.getElem?_eq_some_iff.1 hx).1
    have n1:((k:Nat):Int) < (ws.length:Int):=by omega
    have HLT:=kz hlt
    have HX1:=kz hx
    have HG:=kz hg
    clear hg hx HL hkn hlt
    have hr:zaB x.S≠0:=fun hr =>by have hq:=oz HQ;rw [(oz HG).no (oz HX1) hr] at hq;cases hq
    have HRU:=kz (rk_any (R+1) R g a c ws (s.size:Nat) (zcl s) (zcm s) k x T (oz HG).tl (oz HX1) (oz HN x (List.mem_of_getElem? (oz HX1)) hr) hr W3 wr (oz HK0))
    have HNX:=kz (fun b2 =>LpI.next (b2:=b2) (oz HG) (oz HX1) hr)
    have HRL:=kz (zea ws (s.size:Nat) (zcl s) (zcm s) k x (oz HX1) T (oz HG).tl hr)
    clear hr
    generalize zau ws (s.size:Nat) (zcl s) (zcm s) k x T=V at *
    go_wp2_with fail
    refine (oz HRU).mono ?_
    rintro e w4 ⟨⟨r,rfl⟩,b2,hB,hst⟩
    have HS4:=kz hst
    have HL4:=kz (oz HNX b2 hB)
    have HM4:=kz (zc4 hst.choose_spec.1 ws.length)
    clear hst hB
    go_wp2_with fail
    go_roundw
    case rel =>exact ⟨V.k,b2,V.T,HL4,HS4⟩
    case measure =>
     have:=oz HLT
     have:=oz HRL
     rw [oz HM4,oz HM,if_pos (show (-1:Int) < 0 by omega)]
     split <;> omega
  ·have n1:¬ ((j:Nat):Int) < 0:=by omega
   have n0:(0:Int)≤(j:Int):=by omega
   obtain ⟨vs,hat,hfr⟩:=oz HK0
   have HX1:Hz (Bx2 wr W.heap.size):=kz ((oz HX3).fr hfr (by omega) (by omega))
   have HB1:Hz (Below W.heap.size W wr):=kz (zeV (oz HB3) hfr (by omega) (by omega))
   by_cases hjl:j=ws.length
   ·exact absurd (oz HQ) (by rw [hFb];exact fun e =>by cases e)
   ·exact absurd (oz HQ) (by rw [hFb];exact fun e =>by cases e)
end Go.Proofs.YtmdgejgokoadlaaGreatDoor
