/- Texts of this claim, one behind the other. -/
import Derived.Test.YtmemedpoaocdkaaGreatM13
namespace Go.Proofs.YtmemedpoaocdkaaGreat
open Go.RowKit Go.Shelf
set_option linter.unusedVariables false
set_option maxRecDepth 100000
set_option maxHeartbeats 8000000
theorem zcT (w:World) (b:Nat) (l:List (Int × Int × Int)) (cs:Array Value) (t:TypeId) (hb:b=w.heap.size) (h:cs=(l.flatMap fun x => [Value.int .i64 x.1,.int .i64 x.2.1,.int .i64 x.2.2]).toArray):RwW (w.alloc (.cells cs t)) b 0 l:=by
 subst hb h
 have hB:=Blk.new w (l.flatMap fun x => [Value.int .i64 x.1,.int .i64 x.2.1,.int .i64 x.2.2]).toArray t
 have key:∀ (l:List (Int × Int × Int)) (j:Nat) (x:Int × Int × Int),l[j]?=some x→(l.flatMap fun x => [Value.int .i64 x.1,.int .i64 x.2.1,.int .i64 x.2.2])[j*3]?=some (.int .i64 x.1)∧(l.flatMap fun x => [Value.int .i64 x.1,.int .i64 x.2.1,.int .i64 x.2.2])[j*3+1]?=some (.int .i64 x.2.1)∧(l.flatMap fun x => [Value.int .i64 x.1,.int .i64 x.2.1,.int .i64 x.2.2])[j*3+2]?=some (.int .i64 x.2.2):=by
  intro l
  induction l with
  | nil =>intro j x h;simp at h
  | cons y r ih =>
   intro j x h
   cases j with
   | zero =>
    obtain rfl:y=x:=by simpa using h
    exact ⟨rfl,rfl,rfl⟩
   | succ j =>
    have:=ih j x (by simpa using h)
    rw [List.flatMap_cons,show (j+1)*3=j*3+1+1+1 by omega]
    exact this
 intro j x hx
 obtain ⟨k0,k1,k2⟩:=key l j x hx
 rw [Nat.zero_add]
 refine ⟨?_, ?_, ?_⟩
 ·rw [hB.cell (j*3),List.getElem?_toArray];exact k0
 ·rw [hB.cell (j*3+1),List.getElem?_toArray];exact k1
 ·rw [hB.cell (j*3+2),List.getElem?_toArray];exact k2
theorem RwW.below {w w':World} {g o:Nat} {l:List (Int × Int × Int)} (h:RwW w g o l) (hg:g < w.heap.size) (hb:Below w.heap.size w w'):RwW w' g o l:=fun j x hx =>by
 obtain ⟨h0,h1,h2⟩:=h j x hx
 exact ⟨(hb.cell (p:=⟨g,o+j*3,none⟩) hg).trans h0,(hb.cell (p:=⟨g,o+j*3+1,none⟩) hg).trans h1,(hb.cell (p:=⟨g,o+j*3+2,none⟩) hg).trans h2⟩
theorem zdd (list:Int) (n m:Nat):OkW (zeb list n m):=by
 unfold zeb
 by_cases h:n≤m
 ·rw [if_pos h];intro _;rfl
 ·rw [if_neg h];intro h';cases h'
theorem zaJ {α : Type} (list:Int) (l:List α) (d : α) (f : α→Int):OkW (zaf list l d f):=zbN _ _ _
theorem zji (list:Int) (l:List (Int × Int)):OkW (spW list l):=zbN _ _ _
structure TbF (w:World) (B R:Nat) (T:TV) (a0 a1 a2 a3 a4 a5 a6 a7:Option Addr) (c0 c1 c2 c3 c4 c5 c6 c7:Nat) (us:List Value):Prop where
 bx:Blk w B #[.slice a0 T.sc.length c0,.slice a1 T.co.length c1,.slice a2 T.ma.length c2,.slice a3 T.pr.length c3,.slice a4 T.fo.length c4,.slice a5 T.lk.length c5,.slice a6 T.dr.length c6,.slice a7 T.al.length c7] 28
 rs:Blk w R #[.int .i64 0,.int .i64 0,.int .i64 0] 76
 ti:TabIn w T a0 a1 a2 a3 a4 a5 a6 a7 us
theorem TbF.below {w w':World} {B R:Nat} {T:TV} {a0 a1 a2 a3 a4 a5 a6 a7:Option Addr} {c0 c1 c2 c3 c4 c5 c6 c7:Nat} {us:List Value} (h:TbF w B R T a0 a1 a2 a3 a4 a5 a6 a7 c0 c1 c2 c3 c4 c5 c6 c7 us) (hb:Below w.heap.size w w'):TbF w' B R T a0 a1 a2 a3 a4 a5 a6 a7 c0 c1 c2 c3 c4 c5 c6 c7 us :=
 ⟨h.bx.below hb h.bx.lt,h.rs.below hb h.rs.lt,h.ti.lower hb⟩
def tmD (B:Nat) (T:TV) (a0:Option Addr) (a1:Option Addr) (a2:Option Addr) (a3:Option Addr) (a4:Option Addr) (a5:Option Addr) (a6:Option Addr) (a7:Option Addr) (c0:Nat) (c1:Nat) (c2:Nat) (c3:Nat) (c4:Nat) (c5:Nat) (c6:Nat) (c7:Nat) (x0:Int × Int × Int) (x1:Int × Int × Int) (x2:Int × Int × Int) (x3:Int × Int × Int) (x4:Int × Int × Int) (x5:Int × Int × Int) (x6:Int × Int × Int) (x7:Int × Int × Int) (x8:Int × Int × Int):Nat→Value→World→Prop
 | 0,v,w =>v=.pointer (some ⟨B,0,none⟩)
 | 1,v,w =>v=.slice a0 T.sc.length c0
 | 2,v,w =>v=.int .i64 (T.sc.length:Nat)
 | 3,v,w =>v=wrV x0
 | 4,v,w =>v=.pointer (some ⟨B,0,none⟩)
 | 5,v,w =>v=.slice a0 T.sc.length c0
 | 6,v,w =>v=wrV x1
 | 7,v,w =>v=.pointer (some ⟨B,1,none⟩)
 | 8,v,w =>v=.slice a1 T.co.length c1
 | 9,v,w =>v=.int .i64 (T.co.length:Nat)
 | 10,v,w =>v=wrV x2
 | 11,v,w =>v=.pointer (some ⟨B,2,none⟩)
 | 12,v,w =>v=.slice a2 T.ma.length c2
 | 13,v,w =>v=.int .i64 (T.ma.length:Nat)
 | 14,v,w =>v=wrV x3
 | 15,v,w =>v=.pointer (some ⟨B,3,none⟩)
 | 16,v,w =>v=.slice a3 T.pr.length c3
 | 17,v,w =>v=.int .i64 (T.pr.length:Nat)
 | 18,v,w =>v=wrV x4
 | 19,v,w =>v=.pointer (some ⟨B,4,none⟩)
 | 20,v,w =>v=.slice a4 T.fo.length c4
 | 21,v,w =>v=.int .i64 (T.fo.length:Nat)
 | 22,v,w =>v=wrV x5
 | 23,v,w =>v=.pointer (some ⟨B,5,none⟩)
 | 24,v,w =>v=.slice a5 T.lk.length c5
 | 25,v,w =>v=.int .i64 (T.lk.length:Nat)
 | 26,v,w =>v=wrV x6
 | 27,v,w =>v=.pointer (some ⟨B,6,none⟩)
 | 28,v,w =>v=.slice a6 T.dr.length c6
 | 29,v,w =>v=.int .i64 (T.dr.length:Nat)
 | 30,v,w =>v=wrV x7
 | 31,v,w =>v=.pointer (some ⟨B,7,none⟩)
 | 32,v,w =>v=.slice a7 T.al.length c7
 | 33,v,w =>v=.int .i64 (T.al.length:Nat)
 | 34,v,w =>v=wrV x8
 | 35,v,w => ∃ g,v=.slice (some ⟨g,0,none⟩) 9 9∧g < w.heap.size∧RwW w g 0 [x0,x1,x2,x3,x4,x5,x6,x7,x8]
 | 36,v,w =>v=wrV (orW [x0,x1,x2,x3,x4,x5,x6,x7,x8])
 | _,v,w =>True
def zrx (j:Nat):Bool:=false
theorem zaX {B:Nat} {T:TV} {a0:Option Addr} {a1:Option Addr} {a2:Option Addr} {a3:Option Addr} {a4:Option Addr} {a5:Option Addr} {a6:Option Addr} {a7:Option Addr} {c0:Nat} {c1:Nat} {c2:Nat} {c3:Nat} {c4:Nat} {c5:Nat} {c6:Nat} {c7:Nat} {x0:Int × Int × Int} {x1:Int × Int × Int} {x2:Int × Int × Int} {x3:Int × Int × Int} {x4:Int × Int × Int} {x5:Int × Int × Int} {x6:Int × Int × Int} {x7:Int × Int × Int} {x8:Int × Int × Int} {w w':World} (hb:Below w.heap.size w w'):∀ (j:Nat) (v:Value),tmD B T a0 a1 a2 a3 a4 a5 a6 a7 c0 c1 c2 c3 c4 c5 c6 c7 x0 x1 x2 x3 x4 x5 x6 x7 x8 j v w→tmD B T a0 a1 a2 a3 a4 a5 a6 a7 c0 c1 c2 c3 c4 c5 c6 c7 x0 x1 x2 x3 x4 x5 x6 x7 x8 j v w'
 | 0,v,h =>h
 | 1,v,h =>h
 | 2,v,h =>h
 | 3,v,h =>h
 | 4,v,h =>h
 | 5,v,h =>h
 | 6,v,h =>h
 | 7,v,h =>h
 | 8,v,h =>h
 | 9,v,h =>h
 | 10,v,h =>h
 | 11,v,h =>h
 | 12,v,h =>h
 | 13,v,h =>h
 | 14,v,h =>h
 | 15,v,h =>h
 | 16,v,h =>h
 | 17,v,h =>h
 | 18,v,h =>h
 | 19,v,h =>h
 | 20,v,h =>h
 | 21,v,h =>h
 | 22,v,h =>h
 | 23,v,h =>h
 | 24,v,h =>h
 | 25,v,h =>h
 | 26,v,h =>h
 | 27,v,h =>h
 | 28,v,h =>h
 | 29,v,h =>h
 | 30,v,h =>h
 | 31,v,h =>h
 | 32,v,h =>h
 | 33,v,h =>h
 | 34,v,h =>h
 | 35,v,h =>let ⟨g,e,h1,h2⟩:=h; ⟨g,e,Nat.lt_of_lt_of_le h1 hb.size,h2.below h1 hb⟩
 | 36,v,h =>h
 | _+37,v,h =>h
theorem zaY {B:Nat} {T:TV} {a0:Option Addr} {a1:Option Addr} {a2:Option Addr} {a3:Option Addr} {a4:Option Addr} {a5:Option Addr} {a6:Option Addr} {a7:Option Addr} {c0:Nat} {c1:Nat} {c2:Nat} {c3:Nat} {c4:Nat} {c5:Nat} {c6:Nat} {c7:Nat} {x0:Int × Int × Int} {x1:Int × Int × Int} {x2:Int × Int × Int} {x3:Int × Int × Int} {x4:Int × Int × Int} {x5:Int × Int × Int} {x6:Int × Int × Int} {x7:Int × Int × Int} {x8:Int × Int × Int} {w:World} (j:Nat) (v:Value) (hm:zrx j=true) (h:tmD B T a0 a1 a2 a3 a4 a5 a6 a7 c0 c1 c2 c3 c4 c5 c6 c7 x0 x1 x2 x3 x4 x5 x6 x7 x8 j v w):∀ b,v.ownBlock=some b→b < w.heap.size:=by
 cases hm
theorem zjf (T:TV) (hn:T.sc.length≤1000000) (a0 a1 a2 a3 a4 a5 a6 a7:Option Addr) (c0 c1 c2 c3 c4 c5 c6 c7:Nat) (us:List Value) (W:World) (hT:TabIn W T a0 a1 a2 a3 a4 a5 a6 a7 us) :
  Calls Tryz.prog 71 #[.agg #[.slice a0 T.sc.length c0,.slice a1 T.co.length c1,.slice a2 T.ma.length c2,.slice a3 T.pr.length c3,.slice a4 T.fo.length c4,.slice a5 T.lk.length c5,.slice a6 T.dr.length c6,.slice a7 T.al.length c7]] W fun e w' =>e=.returned (wrV (zbL T))∧Below W.heap.size W w':=by
 have hmx:Tryz.prog.follows .mixedOrders=true:=by kernel_rfl
 have hB0:Below W.heap.size W ((W.alloc (.cells #[.slice a0 T.sc.length c0,.slice a1 T.co.length c1,.slice a2 T.ma.length c2,.slice a3 T.pr.length c3,.slice a4 T.fo.length c4,.slice a5 T.lk.length c5,.slice a6 T.dr.length c6,.slice a7 T.al.length c7] 28)).alloc (.cells #[.int .i64 0,.int .i64 0,.int .i64 0] 76)).drew:=(((Below.refl _ W).alloc (Nat.le_refl _) _).alloc (by simp) _).trans ⟨rfl,rfl,rfl,Nat.le_refl _,fun _ _ =>rfl⟩
 have bA:Blk ((W.alloc (.cells #[.slice a0 T.sc.length c0,.slice a1 T.co.length c1,.slice a2 T.ma.length c2,.slice a3 T.pr.length c3,.slice a4 T.fo.length c4,.slice a5 T.lk.length c5,.slice a6 T.dr.length c6,.slice a7 T.al.length c7] 28)).alloc (.cells #[.int .i64 0,.int .i64 0,.int .i64 0] 76)).drew W.heap.size #[.slice a0 T.sc.length c0,.slice a1 T.co.length c1,.slice a2 T.ma.length c2,.slice a3 T.pr.length c3,.slice a4 T.fo.length c4,.slice a5 T.lk.length c5,.slice a6 T.dr.length c6,.slice a7 T.al.length c7] 28:=(Blk.new W #[.slice a0 T.sc.length c0,.slice a1 T.co.length c1,.slice a2 T.ma.length c2,.slice a3 T.pr.length c3,.slice a4 T.fo.length c4,.slice a5 T.lk.length c5,.slice a6 T.dr.length c6,.slice a7 T.al.length c7] 28).alloc _
 have bR:Blk ((W.alloc (.cells #[.slice a0 T.sc.length c0,.slice a1 T.co.length c1,.slice a2 T.ma.length c2,.slice a3 T.pr.length c3,.slice a4 T.fo.length c4,.slice a5 T.lk.length c5,.slice a6 T.dr.length c6,.slice a7 T.al.length c7] 28)).alloc (.cells #[.int .i64 0,.int .i64 0,.int .i64 0] 76)).drew (W.heap.size+1) #[.int .i64 0,.int .i64 0,.int .i64 0] 76:=by
  have h:=Blk.new (W.alloc (.cells #[.slice a0 T.sc.length c0,.slice a1 T.co.length c1,.slice a2 T.ma.length c2,.slice a3 T.pr.length c3,.slice a4 T.fo.length c4,.slice a5 T.lk.length c5,.slice a6 T.dr.length c6,.slice a7 T.al.length c7] 28)) #[.int .i64 0,.int .i64 0,.int .i64 0] 76
  rw [World.size_alloc] at h
  exact h
 have hTF:TbF ((W.alloc (.cells #[.slice a0 T.sc.length c0,.slice a1 T.co.length c1,.slice a2 T.ma.length c2,.slice a3 T.pr.length c3,.slice a4 T.fo.length c4,.slice a5 T.lk.length c5,.slice a6 T.dr.length c6,.slice a7 T.al.length c7] 28)).alloc (.cells #[.int .i64 0,.int .i64 0,.int .i64 0] 76)).drew W.heap.size (W.heap.size+1) T a0 a1 a2 a3 a4 a5 a6 a7 c0 c1 c2 c3 c4 c5 c6 c7 us:=⟨bA,bR,hT.lower hB0⟩
 have HF:Hz (∀ w1,Below ((W.alloc (.cells #[.slice a0 T.sc.length c0,.slice a1 T.co.length c1,.slice a2 T.ma.length c2,.slice a3 T.pr.length c3,.slice a4 T.fo.length c4,.slice a5 T.lk.length c5,.slice a6 T.dr.length c6,.slice a7 T.al.length c7] 28)).alloc (.cells #[.int .i64 0,.int .i64 0,.int .i64 0] 76)).drew.heap.size ((W.alloc (.cells #[.slice a0 T.sc.length c0,.slice a1 T.co.length c1,.slice a2 T.ma.length c2,.slice a3 T.pr.length c3,.slice a4 T.fo.length c4,.slice a5 T.lk.length c5,.slice a6 T.dr.length c6,.slice a7 T.al.length c7] 28)).alloc (.cells #[.int .i64 0,.int .i64 0,.int .i64 0] 76)).drew w1→TbF w1 W.heap.size (W.heap.size+1) T a0 a1 a2 a3 a4 a5 a6 a7 c0 c1 c2 c3 c4 c5 c6 c7 us):=kz (fun w1 h =>hTF.below h)
 have HB:=kz hB0
 clear hB0 bA bR hTF hT
 obtain ⟨x0,hx0⟩:∃ x,zeb 1 T.sc.length 64=x:=⟨_,rfl⟩
 obtain ⟨x1,hx1⟩:∃ x,zaf 1 T.sc sc0 zmP=x:=⟨_,rfl⟩
 obtain ⟨x2,hx2⟩:∃ x,zeb 2 T.co.length 1024=x:=⟨_,rfl⟩
 obtain ⟨x3,hx3⟩:∃ x,zeb 3 T.ma.length 512=x:=⟨_,rfl⟩
 obtain ⟨x4,hx4⟩:∃ x,zeb 4 T.pr.length 4096=x:=⟨_,rfl⟩
 obtain ⟨x5,hx5⟩:∃ x,zeb 5 T.fo.length 4096=x:=⟨_,rfl⟩
 obtain ⟨x6,hx6⟩:∃ x,zeb 6 T.lk.length 4096=x:=⟨_,rfl⟩
 obtain ⟨x7,hx7⟩:∃ x,zeb 7 T.dr.length 1024=x:=⟨_,rfl⟩
 obtain ⟨x8,hx8⟩:∃ x,zeb 8 T.al.length 1024=x:=⟨_,rfl⟩
 have HOK:Hz (∀ x ∈ [x0,x1,x2,x3,x4,x5,x6,x7,x8],OkW x):=kz (by
  intro x hx
  simp only [List.mem_cons,List.not_mem_nil,or_false] at hx
  rcases hx with rfl | rfl | rfl | rfl | rfl | rfl | rfl | rfl | rfl
  ·rw [← hx0];exact zdd _ _ _
  ·rw [← hx1];exact zaJ _ _ _ _
  ·rw [← hx2];exact zdd _ _ _
  ·rw [← hx3];exact zdd _ _ _
  ·rw [← hx4];exact zdd _ _ _
  ·rw [← hx5];exact zdd _ _ _
  ·rw [← hx6];exact zdd _ _ _
  ·rw [← hx7];exact zdd _ _ _
  ·rw [← hx8];exact zdd _ _ _)
 have hfin:zbL T=orW [x0,x1,x2,x3,x4,x5,x6,x7,x8]:=by
  unfold zbL
  rw [hx0,zpX,hx1,hx2,hx3,hx4,hx5,hx6,hx7,hx8]
 rw [hfin]
 have HX0:=kz hx0
 have HX1:=kz hx1
 have HX2:=kz hx2
 have HX3:=kz hx3
 have HX4:=kz hx4
 have HX5:=kz hx5
 have HX6:=kz hx6
 have HX7:=kz hx7
 have HX8:=kz hx8
 clear hfin hx0 hx1 hx2 hx3 hx4 hx5 hx6 hx7 hx8
 go_enter Tryz.func71,Tryz.ntmps71
 go_wp2_with fail
 generalize (W.alloc (.cells #[.slice a0 T.sc.length c0,.slice a1 T.co.length c1,.slice a2 T.ma.length c2,.slice a3 T.pr.length c3,.slice a4 T.fo.length c4,.slice a5 T.lk.length c5,.slice a6 T.dr.length c6,.slice a7 T.al.length c7] 28)).alloc (.cells #[.int .i64 0,.int .i64 0,.int .i64 0] 76)=w0 at *
 refine zao hmx 37 (by decide) (by kernel_rfl) (by kernel_rfl) (fun l a w => ∃ U:Nat→Value,a = { tmps:=#[.agg #[.slice a0 T.sc.length c0,.slice a1 T.co.length c1,.slice a2 T.ma.length c2,.slice a3 T.pr.length c3,.slice a4 T.fo.length c4,.slice a5 T.lk.length c5,.slice a6 T.dr.length c6,.slice a7 T.al.length c7],.pointer (some ⟨W.heap.size,0,none⟩),.pointer (some ⟨W.heap.size+1,0,none⟩),U 0,U 1,U 2,U 3,U 4,U 5,U 6,U 7,U 8,U 9,U 10,U 11,U 12,U 13,U 14,U 15,U 16,U 17,U 18,U 19,U 20,U 21,U 22,U 23,U 24,U 25,U 26,U 27,U 28,U 29,U 30,U 31,U 32,U 33,U 34,U 35,U 36],defers := [] }∧RgJ (w0.drew) (w0.drew.heap.size) (tmD W.heap.size T a0 a1 a2 a3 a4 a5 a6 a7 c0 c1 c2 c3 c4 c5 c6 c7 x0 x1 x2 x3 x4 x5 x6 x7 x8) zrx l U w) ⟨fun _ =>undef,rfl,RgJ.start _ _ (Nat.le_refl _)⟩ ?_ ?_
 ·rintro l a w i ⟨U,rfl,hJ⟩ hl hi hif
  have h0:=(mem_ready.1 hi).1
  have hlt:=zc9 hl h0
  have HJ:=kz hJ
  clear hJ hl
  replace hlt:i < 38:=hlt
  obtain rfl | rfl | rfl | rfl | rfl | rfl | rfl | rfl | rfl | rfl | rfl | rfl | rfl | rfl | rfl | rfl | rfl | rfl | rfl | rfl | rfl | rfl | rfl | rfl | rfl | rfl | rfl | rfl | rfl | rfl | rfl | rfl | rfl | rfl | rfl | rfl | rfl:i=0∨i=1∨i=2∨i=3∨i=4∨i=5∨i=6∨i=7∨i=8∨i=9∨i=10∨i=11∨i=12∨i=13∨i=14∨i=15∨i=16∨i=17∨i=18∨i=19∨i=20∨i=21∨i=22∨i=23∨i=24∨i=25∨i=26∨i=27∨i=28∨i=29∨i=30∨i=31∨i=32∨i=33∨i=34∨i=35∨i=36:=by omega
  ·refine wpOp_step rfl (fun K hK =>?_)
   clear hlt hif
   go_simp
   exact hK _ _ ⟨zaa U 0 _,rfl,(oz HJ).put 0 _ h0 (Below.refl _ _) (zaX (Below.refl _ _)) rfl zaY (fun h =>absurd h (by decide))⟩
  ·refine wpOp_step rfl (fun K hK =>?_)
   clear hlt hif
   have d0:U 0=.pointer (some ⟨W.heap.size,0,none⟩):=(oz HJ).val 0 (zab hi 0 (by kernel_rfl))
   have q0:=(oz HF w (oz HJ).bel).bx.cell 0
   go_simp
   exact hK _ _ ⟨zaa U 1 _,(by rw [zac d0];rfl),(oz HJ).put 1 _ h0 (Below.refl _ _) (zaX (Below.refl _ _)) rfl zaY (fun h =>absurd h (by decide))⟩
  ·refine wpOp_step rfl (fun K hK =>?_)
   clear hlt hif
   have d1:U 1=.slice a0 T.sc.length c0:=(oz HJ).val 1 (zab hi 1 (by kernel_rfl))
   go_simp
   exact hK _ _ ⟨zaa U 2 _,(by rw [zac d1];rfl),(oz HJ).put 2 _ h0 (Below.refl _ _) (zaX (Below.refl _ _)) rfl zaY (fun h =>absurd h (by decide))⟩
  ·refine wpOp_step rfl (fun K hK =>?_)
   clear hlt hif
   have d2:U 2=.int .i64 (T.sc.length:Nat):=(oz HJ).val 2 (zab hi 2 (by kernel_rfl))
   go_simp
   refine (zb3 1 T.sc.length 64 _).mono ?_
   rw [oz HX0]
   rintro e w' ⟨rfl,hb⟩
   exact hK _ _ ⟨zaa U 3 _,(by rw [zac d2];rfl),(oz HJ).put 3 _ h0 hb (zaX hb) rfl zaY (fun h =>absurd h (by decide))⟩
  ·refine wpOp_step rfl (fun K hK =>?_)
   clear hlt hif
   go_simp
   exact hK _ _ ⟨zaa U 4 _,rfl,(oz HJ).put 4 _ h0 (Below.refl _ _) (zaX (Below.refl _ _)) rfl zaY (fun h =>absurd h (by decide))⟩
  ·refine wpOp_step rfl (fun K hK =>?_)
   clear hlt hif
   have d4:U 4=.pointer (some ⟨W.heap.size,0,none⟩):=(oz HJ).val 4 (zab hi 4 (by kernel_rfl))
   have q0:=(oz HF w (oz HJ).bel).bx.cell 0
   go_simp
   exact hK _ _ ⟨zaa U 5 _,(by rw [zac d4];rfl),(oz HJ).put 5 _ h0 (Below.refl _ _) (zaX (Below.refl _ _)) rfl zaY (fun h =>absurd h (by decide))⟩
  ·refine wpOp_step rfl (fun K hK =>?_)
   clear hlt hif
   have d5:U 5=.slice a0 T.sc.length c0:=(oz HJ).val 5 (zab hi 5 (by kernel_rfl))
   have hf:=oz HF w (oz HJ).bel
   go_simp
   refine (zqa T.sc us hf.ti.lu hn _ _ _ hf.ti.r0 hf.ti.rs).mono ?_
   rw [oz HX1]
   rintro e w' ⟨rfl,hb⟩
   exact hK _ _ ⟨zaa U 6 _,(by rw [zac d5];rfl),(oz HJ).put 6 _ h0 hb (zaX hb) rfl zaY (fun h =>absurd h (by decide))⟩
  ·refine wpOp_step rfl (fun K hK =>?_)
   clear hlt hif
   go_simp
   exact hK _ _ ⟨zaa U 7 _,rfl,(oz HJ).put 7 _ h0 (Below.refl _ _) (zaX (Below.refl _ _)) rfl zaY (fun h =>absurd h (by decide))⟩
  ·refine wpOp_step rfl (fun K hK =>?_)
   clear hlt hif
   have d7:U 7=.pointer (some ⟨W.heap.size,1,none⟩):=(oz HJ).val 7 (zab hi 7 (by kernel_rfl))
   have q0:=(oz HF w (oz HJ).bel).bx.cell 1
   go_simp
   exact hK _ _ ⟨zaa U 8 _,(by rw [zac d7];rfl),(oz HJ).put 8 _ h0 (Below.refl _ _) (zaX (Below.refl _ _)) rfl zaY (fun h =>absurd h (by decide))⟩
  ·refine wpOp_step rfl (fun K hK =>?_)
   clear hlt hif
   have d8:U 8=.slice a1 T.co.length c1:=(oz HJ).val 8 (zab hi 8 (by kernel_rfl))
   go_simp
   exact hK _ _ ⟨zaa U 9 _,(by rw [zac d8];rfl),(oz HJ).put 9 _ h0 (Below.refl _ _) (zaX (Below.refl _ _)) rfl zaY (fun h =>absurd h (by decide))⟩
  ·refine wpOp_step rfl (fun K hK =>?_)
   clear hlt hif
   have d9:U 9=.int .i64 (T.co.length:Nat):=(oz HJ).val 9 (zab hi 9 (by kernel_rfl))
   go_simp
   refine (zb3 2 T.co.length 1024 _).mono ?_
   rw [oz HX2]
   rintro e w' ⟨rfl,hb⟩
   exact hK _ _ ⟨zaa U 10 _,(by rw [zac d9];rfl),(oz HJ).put 10 _ h0 hb (zaX hb) rfl zaY (fun h =>absurd h (by decide))⟩
  ·refine wpOp_step rfl (fun K hK =>?_)
   clear hlt hif
   go_simp
   exact hK _ _ ⟨zaa U 11 _,rfl,(oz HJ).put 11 _ h0 (Below.refl _ _) (zaX (Below.refl _ _)) rfl zaY (fun h =>absurd h (by decide))⟩
  ·refine wpOp_step rfl (fun K hK =>?_)
   clear hlt hif
   have d11:U 11=.pointer (some ⟨W.heap.size,2,none⟩):=(oz HJ).val 11 (zab hi 11 (by kernel_rfl))
   have q0:=(oz HF w (oz HJ).bel).bx.cell 2
   go_simp
   exact hK _ _ ⟨zaa U 12 _,(by rw [zac d11];rfl),(oz HJ).put 12 _ h0 (Below.refl _ _) (zaX (Below.refl _ _)) rfl zaY (fun h =>absurd h (by decide))⟩
  ·refine wpOp_step rfl (fun K hK =>?_)
   clear hlt hif
   have d12:U 12=.slice a2 T.ma.length c2:=(oz HJ).val 12 (zab hi 12 (by kernel_rfl))
   go_simp
   exact hK _ _ ⟨zaa U 13 _,(by rw [zac d12];rfl),(oz HJ).put 13 _ h0 (Below.refl _ _) (zaX (Below.refl _ _)) rfl zaY (fun h =>absurd h (by decide))⟩
  ·refine wpOp_step rfl (fun K hK =>?_)
   clear hlt hif
   have d13:U 13=.int .i64 (T.ma.length:Nat):=(oz HJ).val 13 (zab hi 13 (by kernel_rfl))
   go_simp
   refine (zb3 3 T.ma.length 512 _).mono ?_
   rw [oz HX3]
   rintro e w' ⟨rfl,hb⟩
   exact hK _ _ ⟨zaa U 14 _,(by rw [zac d13];rfl),(oz HJ).put 14 _ h0 hb (zaX hb) rfl zaY (fun h =>absurd h (by decide))⟩
  ·refine wpOp_step rfl (fun K hK =>?_)
   clear hlt hif
   go_simp
   exact hK _ _ ⟨zaa U 15 _,rfl,(oz HJ).put 15 _ h0 (Below.refl _ _) (zaX (Below.refl _ _)) rfl zaY (fun h =>absurd h (by decide))⟩
  ·refine wpOp_step rfl (fun K hK =>?_)
   clear hlt hif
   have d15:U 15=.pointer (some ⟨W.heap.size,3,none⟩):=(oz HJ).val 15 (zab hi 15 (by kernel_rfl))
   have q0:=(oz HF w (oz HJ).bel).bx.cell 3
   go_simp
   exact hK _ _ ⟨zaa U 16 _,(by rw [zac d15];rfl),(oz HJ).put 16 _ h0 (Below.refl _ _) (zaX (Below.refl _ _)) rfl zaY (fun h =>absurd h (by decide))⟩
  ·refine wpOp_step rfl (fun K hK =>?_)
   clear hlt hif
   have d16:U 16=.slice a3 T.pr.length c3:=(oz HJ).val 16 (zab hi 16 (by kernel_rfl))
   go_simp
   exact hK _ _ ⟨zaa U 17 _,(by rw [zac d16];rfl),(oz HJ).put 17 _ h0 (Below.refl _ _) (zaX (Below.refl _ _)) rfl zaY (fun h =>absurd h (by decide))⟩
  ·refine wpOp_step rfl (fun K hK =>?_)
   clear hlt hif
   have d17:U 17=.int .i64 (T.pr.length:Nat):=(oz HJ).val 17 (zab hi 17 (by kernel_rfl))
   go_simp
   refine (zb3 4 T.pr.length 4096 _).mono ?_
   rw [oz HX4]
   rintro e w' ⟨rfl,hb⟩
   exact hK _ _ ⟨zaa U 18 _,(by rw [zac d17];rfl),(oz HJ).put 18 _ h0 hb (zaX hb) rfl zaY (fun h =>absurd h (by decide))⟩
  ·refine wpOp_step rfl (fun K hK =>?_)
   clear hlt hif
   go_simp
   exact hK _ _ ⟨zaa U 19 _,rfl,(oz HJ).put 19 _ h0 (Below.refl _ _) (zaX (Below.refl _ _)) rfl zaY (fun h =>absurd h (by decide))⟩
  ·refine wpOp_step rfl (fun K hK =>?_)
   clear hlt hif
   have d19:U 19=.pointer (some ⟨W.heap.size,4,none⟩):=(oz HJ).val 19 (zab hi 19 (by kernel_rfl))
   have q0:=(oz HF w (oz HJ).bel).bx.cell 4
   go_simp
   exact hK _ _ ⟨zaa U 20 _,(by rw [zac d19];rfl),(oz HJ).put 20 _ h0 (Below.refl _ _) (zaX (Below.refl _ _)) rfl zaY (fun h =>absurd h (by decide))⟩
  ·refine wpOp_step rfl (fun K hK =>?_)
   clear hlt hif
   have d20:U 20=.slice a4 T.fo.length c4:=(oz HJ).val 20 (zab hi 20 (by kernel_rfl))
   go_simp
   exact hK _ _ ⟨zaa U 21 _,(by rw [zac d20];rfl),(oz HJ).put 21 _ h0 (Below.refl _ _) (zaX (Below.refl _ _)) rfl zaY (fun h =>absurd h (by decide))⟩
  ·refine wpOp_step rfl (fun K hK =>?_)
   clear hlt hif
   have d21:U 21=.int .i64 (T.fo.length:Nat):=(oz HJ).val 21 (zab hi 21 (by kernel_rfl))
   go_simp
   refine (zb3 5 T.fo.length 4096 _).mono ?_
   rw [oz HX5]
   rintro e w' ⟨rfl,hb⟩
   exact hK _ _ ⟨zaa U 22 _,(by rw [zac d21];rfl),(oz HJ).put 22 _ h0 hb (zaX hb) rfl zaY (fun h =>absurd h (by decide))⟩
  ·refine wpOp_step rfl (fun K hK =>?_)
   clear hlt hif
   go_simp
   exact hK _ _ ⟨zaa U 23 _,rfl,(oz HJ).put 23 _ h0 (Below.refl _ _) (zaX (Below.refl _ _)) rfl zaY (fun h =>absurd h (by decide))⟩
  ·refine wpOp_step rfl (fun K hK =>?_)
   clear hlt hif
   have d23:U 23=.pointer (some ⟨W.heap.size,5,none⟩):=(oz HJ).val 23 (zab hi 23 (by kernel_rfl))
   have q0:=(oz HF w (oz HJ).bel).bx.cell 5
   go_simp
   exact hK _ _ ⟨zaa U 24 _,(by rw [zac d23];rfl),(oz HJ).put 24 _ h0 (Below.refl _ _) (zaX (Below.refl _ _)) rfl zaY (fun h =>absurd h (by decide))⟩
  ·refine wpOp_step rfl (fun K hK =>?_)
   clear hlt hif
   have d24:U 24=.slice a5 T.lk.length c5:=(oz HJ).val 24 (zab hi 24 (by kernel_rfl))
   go_simp
   exact hK _ _ ⟨zaa U 25 _,(by rw [zac d24];rfl),(oz HJ).put 25 _ h0 (Below.refl _ _) (zaX (Below.refl _ _)) rfl zaY (fun h =>absurd h (by decide))⟩
  ·refine wpOp_step rfl (fun K hK =>?_)
   clear hlt hif
   have d25:U 25=.int .i64 (T.lk.length:Nat):=(oz HJ).val 25 (zab hi 25 (by kernel_rfl))
   go_simp
   refine (zb3 6 T.lk.length 4096 _).mono ?_
   rw [oz HX6]
   rintro e w' ⟨rfl,hb⟩
   exact hK _ _ ⟨zaa U 26 _,(by rw [zac d25];rfl),(oz HJ).put 26 _ h0 hb (zaX hb) rfl zaY (fun h =>absurd h (by decide))⟩
  ·refine wpOp_step rfl (fun K hK =>?_)
   clear hlt hif
   go_simp
   exact hK _ _ ⟨zaa U 27 _,rfl,(oz HJ).put 27 _ h0 (Below.refl _ _) (zaX (Below.refl _ _)) rfl zaY (fun h =>absurd h (by decide))⟩
  ·refine wpOp_step rfl (fun K hK =>?_)
   clear hlt hif
   have d27:U 27=.pointer (some ⟨W.heap.size,6,none⟩):=(oz HJ).val 27 (zab hi 27 (by kernel_rfl))
   have q0:=(oz HF w (oz HJ).bel).bx.cell 6
   go_simp
   exact hK _ _ ⟨zaa U 28 _,(by rw [zac d27];rfl),(oz HJ).put 28 _ h0 (Below.refl _ _) (zaX (Below.refl _ _)) rfl zaY (fun h =>absurd h (by decide))⟩
  ·refine wpOp_step rfl (fun K hK =>?_)
   clear hlt hif
   have d28:U 28=.slice a6 T.dr.length c6:=(oz HJ).val 28 (zab hi 28 (by kernel_rfl))
   go_simp
   exact hK _ _ ⟨zaa U 29 _,(by rw [zac d28];rfl),(oz HJ).put 29 _ h0 (Below.refl _ _) (zaX (Below.refl _ _)) rfl zaY (fun h =>absurd h (by decide))⟩
  ·refine wpOp_step rfl (fun K hK =>?_)
   clear hlt hif
   have d29:U 29=.int .i64 (T.dr.length:Nat):=(oz HJ).val 29 (zab hi 29 (by kernel_rfl))
   go_simp
   refine (zb3 7 T.dr.length 1024 _).mono ?_
   rw [oz HX7]
   rintro e w' ⟨rfl,hb⟩
   exact hK _ _ ⟨zaa U 30 _,(by rw [zac d29];rfl),(oz HJ).put 30 _ h0 hb (zaX hb) rfl zaY (fun h =>absurd h (by decide))⟩
  ·refine wpOp_step rfl (fun K hK =>?_)
   clear hlt hif
   go_simp
   exact hK _ _ ⟨zaa U 31 _,rfl,(oz HJ).put 31 _ h0 (Below.refl _ _) (zaX (Below.refl _ _)) rfl zaY (fun h =>absurd h (by decide))⟩
  ·refine wpOp_step rfl (fun K hK =>?_)
   clear hlt hif
   have d31:U 31=.pointer (some ⟨W.heap.size,7,none⟩):=(oz HJ).val 31 (zab hi 31 (by kernel_rfl))
   have q0:=(oz HF w (oz HJ).bel).bx.cell 7
   go_simp
   exact hK _ _ ⟨zaa U 32 _,(by rw [zac d31];rfl),(oz HJ).put 32 _ h0 (Below.refl _ _) (zaX (Below.refl _ _)) rfl zaY (fun h =>absurd h (by decide))⟩
  ·refine wpOp_step rfl (fun K hK =>?_)
   clear hlt hif
   have d32:U 32=.slice a7 T.al.length c7:=(oz HJ).val 32 (zab hi 32 (by kernel_rfl))
   go_simp
   exact hK _ _ ⟨zaa U 33 _,(by rw [zac d32];rfl),(oz HJ).put 33 _ h0 (Below.refl _ _) (zaX (Below.refl _ _)) rfl zaY (fun h =>absurd h (by decide))⟩
  ·refine wpOp_step rfl (fun K hK =>?_)
   clear hlt hif
   have d33:U 33=.int .i64 (T.al.length:Nat):=(oz HJ).val 33 (zab hi 33 (by kernel_rfl))
   go_simp
   refine (zb3 8 T.al.length 1024 _).mono ?_
   rw [oz HX8]
   rintro e w' ⟨rfl,hb⟩
   exact hK _ _ ⟨zaa U 34 _,(by rw [zac d33];rfl),(oz HJ).put 34 _ h0 hb (zaX hb) rfl zaY (fun h =>absurd h (by decide))⟩
  ·refine wpOp_step rfl (fun K hK =>?_)
   clear hlt hif
   have d3:U 3=wrV x0:=(oz HJ).val 3 (zab hi 3 (by kernel_rfl))
   have d6:U 6=wrV x1:=(oz HJ).val 6 (zab hi 6 (by kernel_rfl))
   have d10:U 10=wrV x2:=(oz HJ).val 10 (zab hi 10 (by kernel_rfl))
   have d14:U 14=wrV x3:=(oz HJ).val 14 (zab hi 14 (by kernel_rfl))
   have d18:U 18=wrV x4:=(oz HJ).val 18 (zab hi 18 (by kernel_rfl))
   have d22:U 22=wrV x5:=(oz HJ).val 22 (zab hi 22 (by kernel_rfl))
   have d26:U 26=wrV x6:=(oz HJ).val 26 (zab hi 26 (by kernel_rfl))
   have d30:U 30=wrV x7:=(oz HJ).val 30 (zab hi 30 (by kernel_rfl))
   have d34:U 34=wrV x8:=(oz HJ).val 34 (zab hi 34 (by kernel_rfl))
   unfold wrV at d3 d6 d10 d14 d18 d22 d26 d30 d34
   go_simp
   exact hK _ _ ⟨zaa U 35 _,(by rw [zac d3,zac d6,zac d10,zac d14,zac d18,zac d22,zac d26,zac d30,zac d34];rfl),(oz HJ).put 35 _ h0 ((Below.refl _ _).alloc (Nat.le_refl _) _) (zaX ((Below.refl _ _).alloc (Nat.le_refl _) _)) ⟨_,rfl,by simp,zcT w _ [x0,x1,x2,x3,x4,x5,x6,x7,x8] _ _ rfl rfl⟩ zaY (fun h =>absurd h (by decide))⟩
  ·refine wpOp_step rfl (fun K hK =>?_)
   clear hlt hif
   obtain ⟨g35,d35,l35,h35⟩:=(oz HJ).val 35 (zab hi 35 (by kernel_rfl))
   go_simp
   refine (zbT [x0,x1,x2,x3,x4,x5,x6,x7,x8] (by simp) (oz HOK) _ 0 _ _ l35 h35).mono ?_
   rintro e w' ⟨rfl,hb⟩
   exact hK _ _ ⟨zaa U 36 _,(by rw [zac d35];rfl),(oz HJ).put 36 _ h0 hb (zaX hb) rfl zaY (fun h =>absurd h (by decide))⟩
 ·rintro l a w ⟨U,rfl,hJ⟩ hall
  have d36:U 36=wrV (orW [x0,x1,x2,x3,x4,x5,x6,x7,x8]):=hJ.val 36 (hall 36 (by decide) (by decide))
  have HBJ:=kz (And.intro ((oz HB).trans (hJ.bel.mono (oz HB).size)) (oz HF w hJ.bel).rs)
  clear hJ hall
  refine wpOp_step rfl (fun K hK =>?_)
  obtain ⟨y,hy⟩:∃ y,orW [x0,x1,x2,x3,x4,x5,x6,x7,x8]=y:=⟨_,rfl⟩
  rw [hy] at d36
  have HY:=kz hy
  clear hy
  obtain ⟨y0,y1,y2⟩:=y
  unfold wrV at d36
  have r0:=(oz HBJ).2.cell 0
  have f0:=(oz HBJ).2.frozen 0
  have r1:=(oz HBJ).2.cell 1
  have f1:=(oz HBJ).2.frozen 1
  have r2:=(oz HBJ).2.cell 2
  have f2:=(oz HBJ).2.frozen 2
  go_simp
  refine hK _ _ ?_
  clear hK
  go_wp2_with fail
  exact bodyPost_ret (v:=wrV (y0,y1,y2)) (zb8 Tryz.results71 rfl (zcf (oz HBJ).2 _ _ _) rfl) rfl ⟨by rw [oz HY],zaW (oz HBJ).1 (by omega) (oz HBJ).1.size _ _ _⟩
def mfD (B:Nat) (T:TV) (a0:Option Addr) (a1:Option Addr) (a2:Option Addr) (a3:Option Addr) (a4:Option Addr) (a5:Option Addr) (a6:Option Addr) (a7:Option Addr) (c0:Nat) (c1:Nat) (c2:Nat) (c3:Nat) (c4:Nat) (c5:Nat) (c6:Nat) (c7:Nat) (x0:Int × Int × Int) (x1:Int × Int × Int) (x2:Int × Int × Int) (x3:Int × Int × Int) (x4:Int × Int × Int) (x5:Int × Int × Int) (x6:Int × Int × Int) (x7:Int × Int × Int):Nat→Value→World→Prop
 | 0,v,w =>v=.pointer (some ⟨B,0,none⟩)
 | 1,v,w =>v=.slice a0 T.sc.length c0
 | 2,v,w =>v=wrV x0
 | 3,v,w =>v=.pointer (some ⟨B,1,none⟩)
 | 4,v,w =>v=.slice a1 T.co.length c1
 | 5,v,w =>v=wrV x1
 | 6,v,w =>v=.pointer (some ⟨B,2,none⟩)
 | 7,v,w =>v=.slice a2 T.ma.length c2
 | 8,v,w =>v=wrV x2
 | 9,v,w =>v=.pointer (some ⟨B,3,none⟩)
 | 10,v,w =>v=.slice a3 T.pr.length c3
 | 11,v,w =>v=wrV x3
 | 12,v,w =>v=.pointer (some ⟨B,4,none⟩)
 | 13,v,w =>v=.slice a4 T.fo.length c4
 | 14,v,w =>v=wrV x4
 | 15,v,w =>v=.pointer (some ⟨B,5,none⟩)
 | 16,v,w =>v=.slice a5 T.lk.length c5
 | 17,v,w =>v=wrV x5
 | 18,v,w =>v=.pointer (some ⟨B,6,none⟩)
 | 19,v,w =>v=.slice a6 T.dr.length c6
 | 20,v,w =>v=wrV x6
 | 21,v,w =>v=.pointer (some ⟨B,7,none⟩)
 | 22,v,w =>v=.slice a7 T.al.length c7
 | 23,v,w =>v=wrV x7
 | 24,v,w => ∃ g,v=.slice (some ⟨g,0,none⟩) 8 8∧g < w.heap.size∧RwW w g 0 [x0,x1,x2,x3,x4,x5,x6,x7]
 | 25,v,w =>v=wrV (orW [x0,x1,x2,x3,x4,x5,x6,x7])
 | _,v,w =>True
def zrA (j:Nat):Bool:=false
theorem zbm {B:Nat} {T:TV} {a0:Option Addr} {a1:Option Addr} {a2:Option Addr} {a3:Option Addr} {a4:Option Addr} {a5:Option Addr} {a6:Option Addr} {a7:Option Addr} {c0:Nat} {c1:Nat} {c2:Nat} {c3:Nat} {c4:Nat} {c5:Nat} {c6:Nat} {c7:Nat} {x0:Int × Int × Int} {x1:Int × Int × Int} {x2:Int × Int × Int} {x3:Int × Int × Int} {x4:Int × Int × Int} {x5:Int × Int × Int} {x6:Int × Int × Int} {x7:Int × Int × Int} {w w':World} (hb:Below w.heap.size w w'):∀ (j:Nat) (v:Value),mfD B T a0 a1 a2 a3 a4 a5 a6 a7 c0 c1 c2 c3 c4 c5 c6 c7 x0 x1 x2 x3 x4 x5 x6 x7 j v w→mfD B T a0 a1 a2 a3 a4 a5 a6 a7 c0 c1 c2 c3 c4 c5 c6 c7 x0 x1 x2 x3 x4 x5 x6 x7 j v w'
 | 0,v,h =>h
 | 1,v,h =>h
 | 2,v,h =>h
 | 3,v,h =>h
 | 4,v,h =>h
 | 5,v,h =>h
 | 6,v,h =>h
 | 7,v,h =>h
 | 8,v,h =>h
 | 9,v,h =>h
 | 10,v,h =>h
 | 11,v,h =>h
 | 12,v,h =>h
 | 13,v,h =>h
 | 14,v,h =>h
 | 15,v,h =>h
 | 16,v,h =>h
 | 17,v,h =>h
 | 18,v,h =>h
 | 19,v,h =>h
 | 20,v,h =>h
 | 21,v,h =>h
 | 22,v,h =>h
 | 23,v,h =>h
 | 24,v,h =>let ⟨g,e,h1,h2⟩:=h; ⟨g,e,Nat.lt_of_lt_of_le h1 hb.size,h2.below h1 hb⟩
 | 25,v,h =>h
 | _+26,v,h =>h
theorem zbn {B:Nat} {T:TV} {a0:Option Addr} {a1:Option Addr} {a2:Option Addr} {a3:Option Addr} {a4:Option Addr} {a5:Option Addr} {a6:Option Addr} {a7:Option Addr} {c0:Nat} {c1:Nat} {c2:Nat} {c3:Nat} {c4:Nat} {c5:Nat} {c6:Nat} {c7:Nat} {x0:Int × Int × Int} {x1:Int × Int × Int} {x2:Int × Int × Int} {x3:Int × Int × Int} {x4:Int × Int × Int} {x5:Int × Int × Int} {x6:Int × Int × Int} {x7:Int × Int × Int} {w:World} (j:Nat) (v:Value) (hm:zrA j=true) (h:mfD B T a0 a1 a2 a3 a4 a5 a6 a7 c0 c1 c2 c3 c4 c5 c6 c7 x0 x1 x2 x3 x4 x5 x6 x7 j v w):∀ b,v.ownBlock=some b→b < w.heap.size:=by
 cases hm
theorem zhW (T:TV) (hO:zfU T) (a0 a1 a2 a3 a4 a5 a6 a7:Option Addr) (c0 c1 c2 c3 c4 c5 c6 c7:Nat) (us:List Value) (W:World) (hT:TabIn W T a0 a1 a2 a3 a4 a5 a6 a7 us) :
  Calls Tryz.prog 72 #[.agg #[.slice a0 T.sc.length c0,.slice a1 T.co.length c1,.slice a2 T.ma.length c2,.slice a3 T.pr.length c3,.slice a4 T.fo.length c4,.slice a5 T.lk.length c5,.slice a6 T.dr.length c6,.slice a7 T.al.length c7]] W fun e w' =>e=.returned (wrV (zbh T))∧Below W.heap.size W w':=by
 have hmx:Tryz.prog.follows .mixedOrders=true:=by kernel_rfl
 have hB0:Below W.heap.size W ((W.alloc (.cells #[.slice a0 T.sc.length c0,.slice a1 T.co.length c1,.slice a2 T.ma.length c2,.slice a3 T.pr.length c3,.slice a4 T.fo.length c4,.slice a5 T.lk.length c5,.slice a6 T.dr.length c6,.slice a7 T.al.length c7] 28)).alloc (.cells #[.int .i64 0,.int .i64 0,.int .i64 0] 76)).drew:=(((Below.refl _ W).alloc (Nat.le_refl _) _).alloc (by simp) _).trans ⟨rfl,rfl,rfl,Nat.le_refl _,fun _ _ =>rfl⟩
 have bA:Blk ((W.alloc (.cells #[.slice a0 T.sc.length c0,.slice a1 T.co.length c1,.slice a2 T.ma.length c2,.slice a3 T.pr.length c3,.slice a4 T.fo.length c4,.slice a5 T.lk.length c5,.slice a6 T.dr.length c6,.slice a7 T.al.length c7] 28)).alloc (.cells #[.int .i64 0,.int .i64 0,.int .i64 0] 76)).drew W.heap.size #[.slice a0 T.sc.length c0,.slice a1 T.co.length c1,.slice a2 T.ma.length c2,.slice a3 T.pr.length c3,.slice a4 T.fo.length c4,.slice a5 T.lk.length c5,.slice a6 T.dr.length c6,.slice a7 T.al.length c7] 28:=(Blk.new W #[.slice a0 T.sc.length c0,.slice a1 T.co.length c1,.slice a2 T.ma.length c2,.slice a3 T.pr.length c3,.slice a4 T.fo.length c4,.slice a5 T.lk.length c5,.slice a6 T.dr.length c6,.slice a7 T.al.length c7] 28).alloc _
 have bR:Blk ((W.alloc (.cells #[.slice a0 T.sc.length c0,.slice a1 T.co.length c1,.slice a2 T.ma.length c2,.slice a3 T.pr.length c3,.slice a4 T.fo.length c4,.slice a5 T.lk.length c5,.slice a6 T.dr.length c6,.slice a7 T.al.length c7] 28)).alloc (.cells #[.int .i64 0,.int .i64 0,.int .i64 0] 76)).drew (W.heap.size+1) #[.int .i64 0,.int .i64 0,.int .i64 0] 76:=by
  have h:=Blk.new (W.alloc (.cells #[.slice a0 T.sc.length c0,.slice a1 T.co.length c1,.slice a2 T.ma.length c2,.slice a3 T.pr.length c3,.slice a4 T.fo.length c4,.slice a5 T.lk.length c5,.slice a6 T.dr.length c6,.slice a7 T.al.length c7] 28)) #[.int .i64 0,.int .i64 0,.int .i64 0] 76
  rw [World.size_alloc] at h
  exact h
 have hTF:TbF ((W.alloc (.cells #[.slice a0 T.sc.length c0,.slice a1 T.co.length c1,.slice a2 T.ma.length c2,.slice a3 T.pr.length c3,.slice a4 T.fo.length c4,.slice a5 T.lk.length c5,.slice a6 T.dr.length c6,.slice a7 T.al.length c7] 28)).alloc (.cells #[.int .i64 0,.int .i64 0,.int .i64 0] 76)).drew W.heap.size (W.heap.size+1) T a0 a1 a2 a3 a4 a5 a6 a7 c0 c1 c2 c3 c4 c5 c6 c7 us:=⟨bA,bR,hT.lower hB0⟩
 have HF:Hz (∀ w1,Below ((W.alloc (.cells #[.slice a0 T.sc.length c0,.slice a1 T.co.length c1,.slice a2 T.ma.length c2,.slice a3 T.pr.length c3,.slice a4 T.fo.length c4,.slice a5 T.lk.length c5,.slice a6 T.dr.length c6,.slice a7 T.al.length c7] 28)).alloc (.cells #[.int .i64 0,.int .i64 0,.int .i64 0] 76)).drew.heap.size ((W.alloc (.cells #[.slice a0 T.sc.length c0,.slice a1 T.co.length c1,.slice a2 T.ma.length c2,.slice a3 T.pr.length c3,.slice a4 T.fo.length c4,.slice a5 T.lk.length c5,.slice a6 T.dr.length c6,.slice a7 T.al.length c7] 28)).alloc (.cells #[.int .i64 0,.int .i64 0,.int .i64 0] 76)).drew w1→TbF w1 W.heap.size (W.heap.size+1) T a0 a1 a2 a3 a4 a5 a6 a7 c0 c1 c2 c3 c4 c5 c6 c7 us):=kz (fun w1 h =>hTF.below h)
 have HB:=kz hB0
 clear hB0 bA bR hTF hT
 obtain ⟨x0,hx0⟩:∃ x,zaf 1 T.sc sc0 scF=x:=⟨_,rfl⟩
 obtain ⟨x1,hx1⟩:∃ x,spW 2 T.co=x:=⟨_,rfl⟩
 obtain ⟨x2,hx2⟩:∃ x,zaf 3 T.ma ma0 maF=x:=⟨_,rfl⟩
 obtain ⟨x3,hx3⟩:∃ x,zaf 4 T.pr pr0 prF=x:=⟨_,rfl⟩
 obtain ⟨x4,hx4⟩:∃ x,zaf 5 T.fo mp0 mpF=x:=⟨_,rfl⟩
 obtain ⟨x5,hx5⟩:∃ x,zaf 6 T.lk mp0 mpF=x:=⟨_,rfl⟩
 obtain ⟨x6,hx6⟩:∃ x,spW 7 T.dr=x:=⟨_,rfl⟩
 obtain ⟨x7,hx7⟩:∃ x,spW 8 T.al=x:=⟨_,rfl⟩
 have HOK:Hz (∀ x ∈ [x0,x1,x2,x3,x4,x5,x6,x7],OkW x):=kz (by
  intro x hx
  simp only [List.mem_cons,List.not_mem_nil,or_false] at hx
  rcases hx with rfl | rfl | rfl | rfl | rfl | rfl | rfl | rfl
  ·rw [← hx0];exact zaJ _ _ _ _
  ·rw [← hx1];exact zji _ _
  ·rw [← hx2];exact zaJ _ _ _ _
  ·rw [← hx3];exact zaJ _ _ _ _
  ·rw [← hx4];exact zaJ _ _ _ _
  ·rw [← hx5];exact zaJ _ _ _ _
  ·rw [← hx6];exact zji _ _
  ·rw [← hx7];exact zji _ _)
 have hfin:zbh T=orW [x0,x1,x2,x3,x4,x5,x6,x7]:=by
  unfold zbh
  rw [hx0,hx1,hx2,hx3,hx4,hx5,hx6,hx7]
 rw [hfin]
 have HX0:=kz hx0
 have HX1:=kz hx1
 have HX2:=kz hx2
 have HX3:=kz hx3
 have HX4:=kz hx4
 have HX5:=kz hx5
 have HX6:=kz hx6
 have HX7:=kz hx7
 clear hfin hx0 hx1 hx2 hx3 hx4 hx5 hx6 hx7
 go_enter Tryz.func72,Tryz.ntmps72
 go_wp2_with fail
 generalize (W.alloc (.cells #[.slice a0 T.sc.length c0,.slice a1 T.co.length c1,.slice a2 T.ma.length c2,.slice a3 T.pr.length c3,.slice a4 T.fo.length c4,.slice a5 T.lk.length c5,.slice a6 T.dr.length c6,.slice a7 T.al.length c7] 28)).alloc (.cells #[.int .i64 0,.int .i64 0,.int .i64 0] 76)=w0 at *
 refine zao hmx 26 (by decide) (by kernel_rfl) (by kernel_rfl) (fun l a w => ∃ U:Nat→Value,a = { tmps:=#[.agg #[.slice a0 T.sc.length c0,.slice a1 T.co.length c1,.slice a2 T.ma.length c2,.slice a3 T.pr.length c3,.slice a4 T.fo.length c4,.slice a5 T.lk.length c5,.slice a6 T.dr.length c6,.slice a7 T.al.length c7],.pointer (some ⟨W.heap.size,0,none⟩),.pointer (some ⟨W.heap.size+1,0,none⟩),U 0,U 1,U 2,U 3,U 4,U 5,U 6,U 7,U 8,U 9,U 10,U 11,U 12,U 13,U 14,U 15,U 16,U 17,U 18,U 19,U 20,U 21,U 22,U 23,U 24,U 25],defers := [] }∧RgJ (w0.drew) (w0.drew.heap.size) (mfD W.heap.size T a0 a1 a2 a3 a4 a5 a6 a7 c0 c1 c2 c3 c4 c5 c6 c7 x0 x1 x2 x3 x4 x5 x6 x7) zrA l U w) ⟨fun _ =>undef,rfl,RgJ.start _ _ (Nat.le_refl _)⟩ ?_ ?_
 ·rintro l a w i ⟨U,rfl,hJ⟩ hl hi hif
  have h0:=(mem_ready.1 hi).1
  have hlt:=zc9 hl h0
  have HJ:=kz hJ
  clear hJ hl
  replace hlt:i < 27:=hlt
  obtain rfl | rfl | rfl | rfl | rfl | rfl | rfl | rfl | rfl | rfl | rfl | rfl | rfl | rfl | rfl | rfl | rfl | rfl | rfl | rfl | rfl | rfl | rfl | rfl | rfl | rfl:i=0∨i=1∨i=2∨i=3∨i=4∨i=5∨i=6∨i=7∨i=8∨i=9∨i=10∨i=11∨i=12∨i=13∨i=14∨i=15∨i=16∨i=17∨i=18∨i=19∨i=20∨i=21∨i=22∨i=23∨i=24∨i=25:=by omega
  ·refine wpOp_step rfl (fun K hK =>?_)
   clear hlt hif
   go_simp
   exact hK _ _ ⟨zaa U 0 _,rfl,(oz HJ).put 0 _ h0 (Below.refl _ _) (zbm (Below.refl _ _)) rfl zbn (fun h =>absurd h (by decide))⟩
  ·refine wpOp_step rfl (fun K hK =>?_)
   clear hlt hif
   have d0:U 0=.pointer (some ⟨W.heap.size,0,none⟩):=(oz HJ).val 0 (zab hi 0 (by kernel_rfl))
   have q0:=(oz HF w (oz HJ).bel).bx.cell 0
   go_simp
   exact hK _ _ ⟨zaa U 1 _,(by rw [zac d0];rfl),(oz HJ).put 1 _ h0 (Below.refl _ _) (zbm (Below.refl _ _)) rfl zbn (fun h =>absurd h (by decide))⟩
  ·refine wpOp_step rfl (fun K hK =>?_)
   clear hlt hif
   have d1:U 1=.slice a0 T.sc.length c0:=(oz HJ).val 1 (zab hi 1 (by kernel_rfl))
   have hf:=oz HF w (oz HJ).bel
   go_simp
   refine (zm7 T.sc us hf.ti.lu hO.n0 hO.z0 _ _ _ hf.ti.r0 hf.ti.rs).mono ?_
   rw [oz HX0]
   rintro e w' ⟨rfl,hb⟩
   exact hK _ _ ⟨zaa U 2 _,(by rw [zac d1];rfl),(oz HJ).put 2 _ h0 hb (zbm hb) rfl zbn (fun h =>absurd h (by decide))⟩
  ·refine wpOp_step rfl (fun K hK =>?_)
   clear hlt hif
   go_simp
   exact hK _ _ ⟨zaa U 3 _,rfl,(oz HJ).put 3 _ h0 (Below.refl _ _) (zbm (Below.refl _ _)) rfl zbn (fun h =>absurd h (by decide))⟩
  ·refine wpOp_step rfl (fun K hK =>?_)
   clear hlt hif
   have d3:U 3=.pointer (some ⟨W.heap.size,1,none⟩):=(oz HJ).val 3 (zab hi 3 (by kernel_rfl))
   have q0:=(oz HF w (oz HJ).bel).bx.cell 1
   go_simp
   exact hK _ _ ⟨zaa U 4 _,(by rw [zac d3];rfl),(oz HJ).put 4 _ h0 (Below.refl _ _) (zbm (Below.refl _ _)) rfl zbn (fun h =>absurd h (by decide))⟩
  ·refine wpOp_step rfl (fun K hK =>?_)
   clear hlt hif
   have d4:U 4=.slice a1 T.co.length c1:=(oz HJ).val 4 (zab hi 4 (by kernel_rfl))
   have hf:=oz HF w (oz HJ).bel
   go_simp
   refine (zdh 2 T.co hO.n1 _ _ _ (zdJ hf.ti.r1 (Nat.le_refl _))).mono ?_
   rw [oz HX1]
   rintro e w' ⟨rfl,hb⟩
   exact hK _ _ ⟨zaa U 5 _,(by rw [zac d4];rfl),(oz HJ).put 5 _ h0 hb (zbm hb) rfl zbn (fun h =>absurd h (by decide))⟩
  ·refine wpOp_step rfl (fun K hK =>?_)
   clear hlt hif
   go_simp
   exact hK _ _ ⟨zaa U 6 _,rfl,(oz HJ).put 6 _ h0 (Below.refl _ _) (zbm (Below.refl _ _)) rfl zbn (fun h =>absurd h (by decide))⟩
  ·refine wpOp_step rfl (fun K hK =>?_)
   clear hlt hif
   have d6:U 6=.pointer (some ⟨W.heap.size,2,none⟩):=(oz HJ).val 6 (zab hi 6 (by kernel_rfl))
   have q0:=(oz HF w (oz HJ).bel).bx.cell 2
   go_simp
   exact hK _ _ ⟨zaa U 7 _,(by rw [zac d6];rfl),(oz HJ).put 7 _ h0 (Below.refl _ _) (zbm (Below.refl _ _)) rfl zbn (fun h =>absurd h (by decide))⟩
  ·refine wpOp_step rfl (fun K hK =>?_)
   clear hlt hif
   have d7:U 7=.slice a2 T.ma.length c2:=(oz HJ).val 7 (zab hi 7 (by kernel_rfl))
   have hf:=oz HF w (oz HJ).bel
   go_simp
   refine (zp9 T.ma hO.n2 _ _ _ hf.ti.r2).mono ?_
   rw [oz HX2]
   rintro e w' ⟨rfl,hb⟩
   exact hK _ _ ⟨zaa U 8 _,(by rw [zac d7];rfl),(oz HJ).put 8 _ h0 hb (zbm hb) rfl zbn (fun h =>absurd h (by decide))⟩
  ·refine wpOp_step rfl (fun K hK =>?_)
   clear hlt hif
   go_simp
   exact hK _ _ ⟨zaa U 9 _,rfl,(oz HJ).put 9 _ h0 (Below.refl _ _) (zbm (Below.refl _ _)) rfl zbn (fun h =>absurd h (by decide))⟩
  ·refine wpOp_step rfl (fun K hK =>?_)
   clear hlt hif
   have d9:U 9=.pointer (some ⟨W.heap.size,3,none⟩):=(oz HJ).val 9 (zab hi 9 (by kernel_rfl))
   have q0:=(oz HF w (oz HJ).bel).bx.cell 3
   go_simp
   exact hK _ _ ⟨zaa U 10 _,(by rw [zac d9];rfl),(oz HJ).put 10 _ h0 (Below.refl _ _) (zbm (Below.refl _ _)) rfl zbn (fun h =>absurd h (by decide))⟩
  ·refine wpOp_step rfl (fun K hK =>?_)
   clear hlt hif
   have d10:U 10=.slice a3 T.pr.length c3:=(oz HJ).val 10 (zab hi 10 (by kernel_rfl))
   have hf:=oz HF w (oz HJ).bel
   go_simp
   refine (zp8 T.pr hO.n3 _ _ _ hf.ti.r3).mono ?_
   rw [oz HX3]
   rintro e w' ⟨rfl,hb⟩
   exact hK _ _ ⟨zaa U 11 _,(by rw [zac d10];rfl),(oz HJ).put 11 _ h0 hb (zbm hb) rfl zbn (fun h =>absurd h (by decide))⟩
  ·refine wpOp_step rfl (fun K hK =>?_)
   clear hlt hif
   go_simp
   exact hK _ _ ⟨zaa U 12 _,rfl,(oz HJ).put 12 _ h0 (Below.refl _ _) (zbm (Below.refl _ _)) rfl zbn (fun h =>absurd h (by decide))⟩
  ·refine wpOp_step rfl (fun K hK =>?_)
   clear hlt hif
   have d12:U 12=.pointer (some ⟨W.heap.size,4,none⟩):=(oz HJ).val 12 (zab hi 12 (by kernel_rfl))
   have q0:=(oz HF w (oz HJ).bel).bx.cell 4
   go_simp
   exact hK _ _ ⟨zaa U 13 _,(by rw [zac d12];rfl),(oz HJ).put 13 _ h0 (Below.refl _ _) (zbm (Below.refl _ _)) rfl zbn (fun h =>absurd h (by decide))⟩
  ·refine wpOp_step rfl (fun K hK =>?_)
   clear hlt hif
   have d13:U 13=.slice a4 T.fo.length c4:=(oz HJ).val 13 (zab hi 13 (by kernel_rfl))
   have hf:=oz HF w (oz HJ).bel
   go_simp
   refine (zpk 5 T.fo hO.n4 hO.z4 _ _ _ hf.ti.r4).mono ?_
   rw [oz HX4]
   rintro e w' ⟨rfl,hb⟩
   exact hK _ _ ⟨zaa U 14 _,(by rw [zac d13];rfl),(oz HJ).put 14 _ h0 hb (zbm hb) rfl zbn (fun h =>absurd h (by decide))⟩
  ·refine wpOp_step rfl (fun K hK =>?_)
   clear hlt hif
   go_simp
   exact hK _ _ ⟨zaa U 15 _,rfl,(oz HJ).put 15 _ h0 (Below.refl _ _) (zbm (Below.refl _ _)) rfl zbn (fun h =>absurd h (by decide))⟩
  ·refine wpOp_step rfl (fun K hK =>?_)
   clear hlt hif
   have d15:U 15=.pointer (some ⟨W.heap.size,5,none⟩):=(oz HJ).val 15 (zab hi 15 (by kernel_rfl))
   have q0:=(oz HF w (oz HJ).bel).bx.cell 5
   go_simp
   exact hK _ _ ⟨zaa U 16 _,(by rw [zac d15];rfl),(oz HJ).put 16 _ h0 (Below.refl _ _) (zbm (Below.refl _ _)) rfl zbn (fun h =>absurd h (by decide))⟩
  ·refine wpOp_step rfl (fun K hK =>?_)
   clear hlt hif
   have d16:U 16=.slice a5 T.lk.length c5:=(oz HJ).val 16 (zab hi 16 (by kernel_rfl))
   have hf:=oz HF w (oz HJ).bel
   go_simp
   refine (zpk 6 T.lk hO.n5 hO.z5 _ _ _ hf.ti.r5).mono ?_
   rw [oz HX5]
   rintro e w' ⟨rfl,hb⟩
   exact hK _ _ ⟨zaa U 17 _,(by rw [zac d16];rfl),(oz HJ).put 17 _ h0 hb (zbm hb) rfl zbn (fun h =>absurd h (by decide))⟩
  ·refine wpOp_step rfl (fun K hK =>?_)
   clear hlt hif
   go_simp
   exact hK _ _ ⟨zaa U 18 _,rfl,(oz HJ).put 18 _ h0 (Below.refl _ _) (zbm (Below.refl _ _)) rfl zbn (fun h =>absurd h (by decide))⟩
  ·refine wpOp_step rfl (fun K hK =>?_)
   clear hlt hif
   have d18:U 18=.pointer (some ⟨W.heap.size,6,none⟩):=(oz HJ).val 18 (zab hi 18 (by kernel_rfl))
   have q0:=(oz HF w (oz HJ).bel).bx.cell 6
   go_simp
   exact hK _ _ ⟨zaa U 19 _,(by rw [zac d18];rfl),(oz HJ).put 19 _ h0 (Below.refl _ _) (zbm (Below.refl _ _)) rfl zbn (fun h =>absurd h (by decide))⟩
  ·refine wpOp_step rfl (fun K hK =>?_)
   clear hlt hif
   have d19:U 19=.slice a6 T.dr.length c6:=(oz HJ).val 19 (zab hi 19 (by kernel_rfl))
   have hf:=oz HF w (oz HJ).bel
   go_simp
   refine (zdh 7 T.dr hO.n6 _ _ _ (zdJ hf.ti.r6 (Nat.le_refl _))).mono ?_
   rw [oz HX6]
   rintro e w' ⟨rfl,hb⟩
   exact hK _ _ ⟨zaa U 20 _,(by rw [zac d19];rfl),(oz HJ).put 20 _ h0 hb (zbm hb) rfl zbn (fun h =>absurd h (by decide))⟩
  ·refine wpOp_step rfl (fun K hK =>?_)
   clear hlt hif
   go_simp
   exact hK _ _ ⟨zaa U 21 _,rfl,(oz HJ).put 21 _ h0 (Below.refl _ _) (zbm (Below.refl _ _)) rfl zbn (fun h =>absurd h (by decide))⟩
  ·refine wpOp_step rfl (fun K hK =>?_)
   clear hlt hif
   have d21:U 21=.pointer (some ⟨W.heap.size,7,none⟩):=(oz HJ).val 21 (zab hi 21 (by kernel_rfl))
   have q0:=(oz HF w (oz HJ).bel).bx.cell 7
   go_simp
   exact hK _ _ ⟨zaa U 22 _,(by rw [zac d21];rfl),(oz HJ).put 22 _ h0 (Below.refl _ _) (zbm (Below.refl _ _)) rfl zbn (fun h =>absurd h (by decide))⟩
  ·refine wpOp_step rfl (fun K hK =>?_)
   clear hlt hif
   have d22:U 22=.slice a7 T.al.length c7:=(oz HJ).val 22 (zab hi 22 (by kernel_rfl))
   have hf:=oz HF w (oz HJ).bel
   go_simp
   refine (zdh 8 T.al hO.n7 _ _ _ (zdJ hf.ti.r7 (Nat.le_refl _))).mono ?_
   rw [oz HX7]
   rintro e w' ⟨rfl,hb⟩
   exact hK _ _ ⟨zaa U 23 _,(by rw [zac d22];rfl),(oz HJ).put 23 _ h0 hb (zbm hb) rfl zbn (fun h =>absurd h (by decide))⟩
  ·refine wpOp_step rfl (fun K hK =>?_)
   clear hlt hif
   have d2:U 2=wrV x0:=(oz HJ).val 2 (zab hi 2 (by kernel_rfl))
   have d5:U 5=wrV x1:=(oz HJ).val 5 (zab hi 5 (by kernel_rfl))
   have d8:U 8=wrV x2:=(oz HJ).val 8 (zab hi 8 (by kernel_rfl))
   have d11:U 11=wrV x3:=(oz HJ).val 11 (zab hi 11 (by kernel_rfl))
   have d14:U 14=wrV x4:=(oz HJ).val 14 (zab hi 14 (by kernel_rfl))
   have d17:U 17=wrV x5:=(oz HJ).val 17 (zab hi 17 (by kernel_rfl))
   have d20:U 20=wrV x6:=(oz HJ).val 20 (zab hi 20 (by kernel_rfl))
   have d23:U 23=wrV x7:=(oz HJ).val 23 (zab hi 23 (by kernel_rfl))
   unfold wrV at d2 d5 d8 d11 d14 d17 d20 d23
   go_simp
   exact hK _ _ ⟨zaa U 24 _,(by rw [zac d2,zac d5,zac d8,zac d11,zac d14,zac d17,zac d20,zac d23];rfl),(oz HJ).put 24 _ h0 ((Below.refl _ _).alloc (Nat.le_refl _) _) (zbm ((Below.refl _ _).alloc (Nat.le_refl _) _)) ⟨_,rfl,by simp,zcT w _ [x0,x1,x2,x3,x4,x5,x6,x7] _ _ rfl rfl⟩ zbn (fun h =>absurd h (by decide))⟩
  ·refine wpOp_step rfl (fun K hK =>?_)
   clear hlt hif
   obtain ⟨g24,d24,l24,h24⟩:=(oz HJ).val 24 (zab hi 24 (by kernel_rfl))
   go_simp
   refine (zbT [x0,x1,x2,x3,x4,x5,x6,x7] (by simp) (oz HOK) _ 0 _ _ l24 h24).mono ?_
   rintro e w' ⟨rfl,hb⟩
   exact hK _ _ ⟨zaa U 25 _,(by rw [zac d24];rfl),(oz HJ).put 25 _ h0 hb (zbm hb) rfl zbn (fun h =>absurd h (by decide))⟩
 ·rintro l a w ⟨U,rfl,hJ⟩ hall
  have d25:U 25=wrV (orW [x0,x1,x2,x3,x4,x5,x6,x7]):=hJ.val 25 (hall 25 (by decide) (by decide))
  have HBJ:=kz (And.intro ((oz HB).trans (hJ.bel.mono (oz HB).size)) (oz HF w hJ.bel).rs)
  clear hJ hall
  refine wpOp_step rfl (fun K hK =>?_)
  obtain ⟨y,hy⟩:∃ y,orW [x0,x1,x2,x3,x4,x5,x6,x7]=y:=⟨_,rfl⟩
  rw [hy] at d25
  have HY:=kz hy
  clear hy
  obtain ⟨y0,y1,y2⟩:=y
  unfold wrV at d25
  have r0:=(oz HBJ).2.cell 0
  have f0:=(oz HBJ).2.frozen 0
  have r1:=(oz HBJ).2.cell 1
  have f1:=(oz HBJ).2.frozen 1
  have r2:=(oz HBJ).2.cell 2
  have f2:=(oz HBJ).2.frozen 2
  go_simp
  refine hK _ _ ?_
  clear hK
  go_wp2_with fail
  exact bodyPost_ret (v:=wrV (y0,y1,y2)) (zb8 Tryz.results72 rfl (zcf (oz HBJ).2 _ _ _) rfl) rfl ⟨by rw [oz HY],zaW (oz HBJ).1 (by omega) (oz HBJ).1.size _ _ _⟩
end Go.Proofs.YtmemedpoaocdkaaGreat
