/- Texts of this claim, one behind the other. -/
import Derived.Test.YtmemedpoaocdkaaGreatTkK
import Derived.Maps.OwnSet
import Derived.WideKeyPair
/- Which tables are right: rows that are misformed. -/
namespace Go.Proofs.YtmemedpoaocdkaaGreat
open Go.RowKit Go.Shelf
set_option linter.unusedVariables false
def mfD (B:Nat) (T:TV) (a0:Option Addr) (a1:Option Addr) (a2:Option Addr) (a3:Option Addr) (a4:Option Addr) (a5:Option Addr) (a6:Option Addr) (a7:Option Addr) (c0:Nat) (c1:Nat) (c2:Nat) (c3:Nat) (c4:Nat) (c5:Nat) (c6:Nat) (c7:Nat) (x0:Int × Int × Int) (x1:Int × Int × Int) (x2:Int × Int × Int) (x3:Int × Int × Int) (x4:Int × Int × Int) (x5:Int × Int × Int) (x6:Int × Int × Int) (x7:Int × Int × Int):Nat→Value→World→Prop
 | 0,v,w =>v=.pointer (some ⟨B,0,none⟩)
 | 1,v,w =>v=.slice a0 T.sc.length c0
 | 2,v,w =>v=wrV x0
 | 3,v,w =>v=.pointer (some ⟨B,1,none⟩)
 | 4,v,w =>v=.slice a1 T.co.length c1
 | 5,v,w =>v=wrV x1
 | 6,v,w =>v=.pointer (some ⟨B,2,none⟩)
 | 7,v,w =>v=.slice a2 T.ma.length c2
 | 8,v,w =>v=wrV x2
 | 9,v,w =>v=.pointer (some ⟨B,3,none⟩)
 | 10,v,w =>v=.slice a3 T.pr.length c3
 | 11,v,w =>v=wrV x3
 | 12,v,w =>v=.pointer (some ⟨B,4,none⟩)
 | 13,v,w =>v=.slice a4 T.fo.length c4
 | 14,v,w =>v=wrV x4
 | 15,v,w =>v=.pointer (some ⟨B,5,none⟩)
 | 16,v,w =>v=.slice a5 T.lk.length c5
 | 17,v,w =>v=wrV x5
 | 18,v,w =>v=.pointer (some ⟨B,6,none⟩)
 | 19,v,w =>v=.slice a6 T.dr.length c6
 | 20,v,w =>v=wrV x6
 | 21,v,w =>v=.pointer (some ⟨B,7,none⟩)
 | 22,v,w =>v=.slice a7 T.al.length c7
 | 23,v,w =>v=wrV x7
 | 24,v,w => ∃ g,v=.slice (some ⟨g,0,none⟩) 8 8∧g < w.heap.size∧RwW w g 0 [x0,x1,x2,x3,x4,x5,x6,x7]
 | 25,v,w =>v=wrV (orW [x0,x1,x2,x3,x4,x5,x6,x7])
 | _,v,w =>True
def zsj (j:Nat):Bool:=false
theorem zbp {B:Nat} {T:TV} {a0:Option Addr} {a1:Option Addr} {a2:Option Addr} {a3:Option Addr} {a4:Option Addr} {a5:Option Addr} {a6:Option Addr} {a7:Option Addr} {c0:Nat} {c1:Nat} {c2:Nat} {c3:Nat} {c4:Nat} {c5:Nat} {c6:Nat} {c7:Nat} {x0:Int × Int × Int} {x1:Int × Int × Int} {x2:Int × Int × Int} {x3:Int × Int × Int} {x4:Int × Int × Int} {x5:Int × Int × Int} {x6:Int × Int × Int} {x7:Int × Int × Int} {w w':World} (hb:Below w.heap.size w w'):∀ (j:Nat) (v:Value),mfD B T a0 a1 a2 a3 a4 a5 a6 a7 c0 c1 c2 c3 c4 c5 c6 c7 x0 x1 x2 x3 x4 x5 x6 x7 j v w→mfD B T a0 a1 a2 a3 a4 a5 a6 a7 c0 c1 c2 c3 c4 c5 c6 c7 x0 x1 x2 x3 x4 x5 x6 x7 j v w'
 | 0,v,h =>h
 | 1,v,h =>h
 | 2,v,h =>h
 | 3,v,h =>h
 | 4,v,h =>h
 | 5,v,h =>h
 | 6,v,h =>h
 | 7,v,h =>h
 | 8,v,h =>h
 | 9,v,h =>h
 | 10,v,h =>h
 | 11,v,h =>h
 | 12,v,h =>h
 | 13,v,h =>h
 | 14,v,h =>h
 | 15,v,h =>h
 | 16,v,h =>h
 | 17,v,h =>h
 | 18,v,h =>h
 | 19,v,h =>h
 | 20,v,h =>h
 | 21,v,h =>h
 | 22,v,h =>h
 | 23,v,h =>h
 | 24,v,h =>let ⟨g,e,h1,h2⟩:=h; ⟨g,e,Nat.lt_of_lt_of_le h1 hb.size,h2.below h1 hb⟩
 | 25,v,h =>h
 | _+26,v,h =>h
theorem zbq {B:Nat} {T:TV} {a0:Option Addr} {a1:Option Addr} {a2:Option Addr} {a3:Option Addr} {a4:Option Addr} {a5:Option Addr} {a6:Option Addr} {a7:Option Addr} {c0:Nat} {c1:Nat} {c2:Nat} {c3:Nat} {c4:Nat} {c5:Nat} {c6:Nat} {c7:Nat} {x0:Int × Int × Int} {x1:Int × Int × Int} {x2:Int × Int × Int} {x3:Int × Int × Int} {x4:Int × Int × Int} {x5:Int × Int × Int} {x6:Int × Int × Int} {x7:Int × Int × Int} {w:World} (j:Nat) (v:Value) (hm:zsj j=true) (h:mfD B T a0 a1 a2 a3 a4 a5 a6 a7 c0 c1 c2 c3 c4 c5 c6 c7 x0 x1 x2 x3 x4 x5 x6 x7 j v w):∀ b,v.ownBlock=some b→b < w.heap.size:=by
 cases hm
set_option maxRecDepth 100000 in
set_option maxHeartbeats 8000000 in
theorem ziE (T:TV) (hO:zgL T) (a0 a1 a2 a3 a4 a5 a6 a7:Option Addr) (c0 c1 c2 c3 c4 c5 c6 c7:Nat) (us:List Value) (W:World) (hT:TabIn W T a0 a1 a2 a3 a4 a5 a6 a7 us) :
  Calls Tryz.prog 72 #[.agg #[.slice a0 T.sc.length c0,.slice a1 T.co.length c1,.slice a2 T.ma.length c2,.slice a3 T.pr.length c3,.slice a4 T.fo.length c4,.slice a5 T.lk.length c5,.slice a6 T.dr.length c6,.slice a7 T.al.length c7]] W fun e w' =>e=.returned (wrV (zbl T))∧Below W.heap.size W w':=by
 have hmx:Tryz.prog.follows .mixedOrders=true:=by kernel_rfl
 have hB0:Below W.heap.size W ((W.alloc (.cells #[.slice a0 T.sc.length c0,.slice a1 T.co.length c1,.slice a2 T.ma.length c2,.slice a3 T.pr.length c3,.slice a4 T.fo.length c4,.slice a5 T.lk.length c5,.slice a6 T.dr.length c6,.slice a7 T.al.length c7] 28)).alloc (.cells #[.int .i64 0,.int .i64 0,.int .i64 0] 76)).drew:=(((Below.refl _ W).alloc (Nat.le_refl _) _).alloc (by simp) _).trans ⟨rfl,rfl,rfl,Nat.le_refl _,fun _ _ =>rfl⟩
 have bA:Blk ((W.alloc (.cells #[.slice a0 T.sc.length c0,.slice a1 T.co.length c1,.slice a2 T.ma.length c2,.slice a3 T.pr.length c3,.slice a4 T.fo.length c4,.slice a5 T.lk.length c5,.slice a6 T.dr.length c6,.slice a7 T.al.length c7] 28)).alloc (.cells #[.int .i64 0,.int .i64 0,.int .i64 0] 76)).drew W.heap.size #[.slice a0 T.sc.length c0,.slice a1 T.co.length c1,.slice a2 T.ma.length c2,.slice a3 T.pr.length c3,.slice a4 T.fo.length c4,.slice a5 T.lk.length c5,.slice a6 T.dr.length c6,.slice a7 T.al.length c7] 28:=(Blk.new W #[.slice a0 T.sc.length c0,.slice a1 T.co.length c1,.slice a2 T.ma.length c2,.slice a3 T.pr.length c3,.slice a4 T.fo.length c4,.slice a5 T.lk.length c5,.slice a6 T.dr.length c6,.slice a7 T.al.length c7] 28).alloc _
 have bR:Blk ((W.alloc (.cells #[.slice a0 T.sc.length c0,.slice a1 T.co.length c1,.slice a2 T.ma.length c2,.slice a3 T.pr.length c3,.slice a4 T.fo.length c4,.slice a5 T.lk.length c5,.slice a6 T.dr.length c6,.slice a7 T.al.length c7] 28)).alloc (.cells #[.int .i64 0,.int .i64 0,.int .i64 0] 76)).drew (W.heap.size+1) #[.int .i64 0,.int .i64 0,.int .i64 0] 76:=by
  have h:=Blk.new (W.alloc (.cells #[.slice a0 T.sc.length c0,.slice a1 T.co.length c1,.slice a2 T.ma.length c2,.slice a3 T.pr.length c3,.slice a4 T.fo.length c4,.slice a5 T.lk.length c5,.slice a6 T.dr.length c6,.slice a7 T.al.length c7] 28)) #[.int .i64 0,.int .i64 0,.int .i64 0] 76
  rw [World.size_alloc] at h
  exact h
 have hTF:TbF ((W.alloc (.cells #[.slice a0 T.sc.length c0,.slice a1 T.co.length c1,.slice a2 T.ma.length c2,.slice a3 T.pr.length c3,.slice a4 T.fo.length c4,.slice a5 T.lk.length c5,.slice a6 T.dr.length c6,.slice a7 T.al.length c7] 28)).alloc (.cells #[.int .i64 0,.int .i64 0,.int .i64 0] 76)).drew W.heap.size (W.heap.size+1) T a0 a1 a2 a3 a4 a5 a6 a7 c0 c1 c2 c3 c4 c5 c6 c7 us:=⟨bA,bR,hT.lower hB0⟩
 have HF:Hz (∀ w1,Below ((W.alloc (.cells #[.slice a0 T.sc.length c0,.slice a1 T.co.length c1,.slice a2 T.ma.length c2,.slice a3 T.pr.length c3,.slice a4 T.fo.length c4,.slice a5 T.lk.length c5,.slice a6 T.dr.length c6,.slice a7 T.al.length c7] 28)).alloc (.cells #[.int .i64 0,.int .i64 0,.int .i64 0] 76)).drew.heap.size ((W.alloc (.cells #[.slice a0 T.sc.length c0,.slice a1 T.co.length c1,.slice a2 T.ma.length c2,.slice a3 T.pr.length c3,.slice a4 T.fo.length c4,.slice a5 T.lk.length c5,.slice a6 T.dr.length c6,.slice a7 T.al.length c7] 28)).alloc (.cells #[.int .i64 0,.int .i64 0,.int .i64 0] 76)).drew w1→TbF w1 W.heap.size (W.heap.size+1) T a0 a1 a2 a3 a4 a5 a6 a7 c0 c1 c2 c3 c4 c5 c6 c7 us):=kz (fun w1 h =>hTF.below h)
 have HB:=kz hB0
 clear hB0 bA bR hTF hT
 obtain ⟨x0,hx0⟩:∃ x,zaf 1 T.sc sc0 scF=x:=⟨_,rfl⟩
 obtain ⟨x1,hx1⟩:∃ x,spW 2 T.co=x:=⟨_,rfl⟩
 obtain ⟨x2,hx2⟩:∃ x,zaf 3 T.ma ma0 maF=x:=⟨_,rfl⟩
 obtain ⟨x3,hx3⟩:∃ x,zaf 4 T.pr pr0 prF=x:=⟨_,rfl⟩
 obtain ⟨x4,hx4⟩:∃ x,zaf 5 T.fo mp0 mpF=x:=⟨_,rfl⟩
 obtain ⟨x5,hx5⟩:∃ x,zaf 6 T.lk mp0 mpF=x:=⟨_,rfl⟩
 obtain ⟨x6,hx6⟩:∃ x,spW 7 T.dr=x:=⟨_,rfl⟩
 obtain ⟨x7,hx7⟩:∃ x,spW 8 T.al=x:=⟨_,rfl⟩
 have HOK:Hz (∀ x ∈ [x0,x1,x2,x3,x4,x5,x6,x7],OkW x):=kz (by
  intro x hx
  simp only [List.mem_cons,List.not_mem_nil,or_false] at hx
  rcases hx with rfl | rfl | rfl | rfl | rfl | rfl | rfl | rfl
  ·rw [← hx0];exact zaM _ _ _ _
  ·rw [← hx1];exact zj1 _ _
  ·rw [← hx2];exact zaM _ _ _ _
  ·rw [← hx3];exact zaM _ _ _ _
  ·rw [← hx4];exact zaM _ _ _ _
  ·rw [← hx5];exact zaM _ _ _ _
  ·rw [← hx6];exact zj1 _ _
  ·rw [← hx7];exact zj1 _ _)
 have hfin:zbl T=orW [x0,x1,x2,x3,x4,x5,x6,x7]:=by
  unfold zbl
  rw [hx0,hx1,hx2,hx3,hx4,hx5,hx6,hx7]
 rw [hfin]
 have HX0:=kz hx0
 have HX1:=kz hx1
 have HX2:=kz hx2
 have HX3:=kz hx3
 have HX4:=kz hx4
 have HX5:=kz hx5
 have HX6:=kz hx6
 have HX7:=kz hx7
 clear hfin hx0 hx1 hx2 hx3 hx4 hx5 hx6 hx7
 go_enter Tryz.func72,Tryz.ntmps72
 go_wp2_with fail
 generalize (W.alloc (.cells #[.slice a0 T.sc.length c0,.slice a1 T.co.length c1,.slice a2 T.ma.length c2,.slice a3 T.pr.length c3,.slice a4 T.fo.length c4,.slice a5 T.lk.length c5,.slice a6 T.dr.length c6,.slice a7 T.al.length c7] 28)).alloc (.cells #[.int .i64 0,.int .i64 0,.int .i64 0] 76)=w0 at *
 refine zao hmx 26 (by decide) (by kernel_rfl) (by kernel_rfl) (fun l a w => ∃ U:Nat→Value,a = { tmps:=#[.agg #[.slice a0 T.sc.length c0,.slice a1 T.co.length c1,.slice a2 T.ma.length c2,.slice a3 T.pr.length c3,.slice a4 T.fo.length c4,.slice a5 T.lk.length c5,.slice a6 T.dr.length c6,.slice a7 T.al.length c7],.pointer (some ⟨W.heap.size,0,none⟩),.pointer (some ⟨W.heap.size+1,0,none⟩),U 0,U 1,U 2,U 3,U 4,U 5,U 6,U 7,U 8,U 9,U 10,U 11,U 12,U 13,U 14,U 15,U 16,U 17,U 18,U 19,U 20,U 21,U 22,U 23,U 24,U 25],defers := [] }∧RgJ (w0.drew) (w0.drew.heap.size) (mfD W.heap.size T a0 a1 a2 a3 a4 a5 a6 a7 c0 c1 c2 c3 c4 c5 c6 c7 x0 x1 x2 x3 x4 x5 x6 x7) zsj l U w) ⟨fun _ =>undef,rfl,RgJ.start _ _ (Nat.le_refl _)⟩ ?_ ?_
 ·rintro l a w i ⟨U,rfl,hJ⟩ hl hi hif
  have h0:=(mem_ready.1 hi).1
  have hlt:=zdB hl h0
  have HJ:=kz hJ
  clear hJ hl
  replace hlt:i < 27:=hlt
  obtain rfl | rfl | rfl | rfl | rfl | rfl | rfl | rfl | rfl | rfl | rfl | rfl | rfl | rfl | rfl | rfl | rfl | rfl | rfl | rfl | rfl | rfl | rfl | rfl | rfl | rfl:i=0∨i=1∨i=2∨i=3∨i=4∨i=5∨i=6∨i=7∨i=8∨i=9∨i=10∨i=11∨i=12∨i=13∨i=14∨i=15∨i=16∨i=17∨i=18∨i=19∨i=20∨i=21∨i=22∨i=23∨i=24∨i=25:=by omega
  ·refine wpOp_step rfl (fun K hK =>?_)
   clear hlt hif
   go_simp
   exact hK _ _ ⟨zaa U 0 _,rfl,(oz HJ).put 0 _ h0 (Below.refl _ _) (zbp (Below.refl _ _)) rfl zbq (fun h =>absurd h (by decide))⟩
  ·refine wpOp_step rfl (fun K hK =>?_)
   clear hlt hif
   have d0:U 0=.pointer (some ⟨W.heap.size,0,none⟩):=(oz HJ).val 0 (zab hi 0 (by kernel_rfl))
   have q0:=(oz HF w (oz HJ).bel).bx.cell 0
   go_simp
   exact hK _ _ ⟨zaa U 1 _,(by rw [zac d0];rfl),(oz HJ).put 1 _ h0 (Below.refl _ _) (zbp (Below.refl _ _)) rfl zbq (fun h =>absurd h (by decide))⟩
  ·refine wpOp_step rfl (fun K hK =>?_)
   clear hlt hif
   have d1:U 1=.slice a0 T.sc.length c0:=(oz HJ).val 1 (zab hi 1 (by kernel_rfl))
   have hf:=oz HF w (oz HJ).bel
   go_simp
   refine (znz T.sc us hf.ti.lu hO.n0 hO.z0 _ _ _ hf.ti.r0 hf.ti.rs).mono ?_
   rw [oz HX0]
   rintro e w' ⟨rfl,hb⟩
   exact hK _ _ ⟨zaa U 2 _,(by rw [zac d1];rfl),(oz HJ).put 2 _ h0 hb (zbp hb) rfl zbq (fun h =>absurd h (by decide))⟩
  ·refine wpOp_step rfl (fun K hK =>?_)
   clear hlt hif
   go_simp
   exact hK _ _ ⟨zaa U 3 _,rfl,(oz HJ).put 3 _ h0 (Below.refl _ _) (zbp (Below.refl _ _)) rfl zbq (fun h =>absurd h (by decide))⟩
  ·refine wpOp_step rfl (fun K hK =>?_)
   clear hlt hif
   have d3:U 3=.pointer (some ⟨W.heap.size,1,none⟩):=(oz HJ).val 3 (zab hi 3 (by kernel_rfl))
   have q0:=(oz HF w (oz HJ).bel).bx.cell 1
   go_simp
   exact hK _ _ ⟨zaa U 4 _,(by rw [zac d3];rfl),(oz HJ).put 4 _ h0 (Below.refl _ _) (zbp (Below.refl _ _)) rfl zbq (fun h =>absurd h (by decide))⟩
  ·refine wpOp_step rfl (fun K hK =>?_)
   clear hlt hif
   have d4:U 4=.slice a1 T.co.length c1:=(oz HJ).val 4 (zab hi 4 (by kernel_rfl))
   have hf:=oz HF w (oz HJ).bel
   go_simp
   refine (zdJ 2 T.co hO.n1 _ _ _ (zei hf.ti.r1 (Nat.le_refl _))).mono ?_
   rw [oz HX1]
   rintro e w' ⟨rfl,hb⟩
   exact hK _ _ ⟨zaa U 5 _,(by rw [zac d4];rfl),(oz HJ).put 5 _ h0 hb (zbp hb) rfl zbq (fun h =>absurd h (by decide))⟩
  ·refine wpOp_step rfl (fun K hK =>?_)
   clear hlt hif
   go_simp
   exact hK _ _ ⟨zaa U 6 _,rfl,(oz HJ).put 6 _ h0 (Below.refl _ _) (zbp (Below.refl _ _)) rfl zbq (fun h =>absurd h (by decide))⟩
  ·refine wpOp_step rfl (fun K hK =>?_)
   clear hlt hif
   have d6:U 6=.pointer (some ⟨W.heap.size,2,none⟩):=(oz HJ).val 6 (zab hi 6 (by kernel_rfl))
   have q0:=(oz HF w (oz HJ).bel).bx.cell 2
   go_simp
   exact hK _ _ ⟨zaa U 7 _,(by rw [zac d6];rfl),(oz HJ).put 7 _ h0 (Below.refl _ _) (zbp (Below.refl _ _)) rfl zbq (fun h =>absurd h (by decide))⟩
  ·refine wpOp_step rfl (fun K hK =>?_)
   clear hlt hif
   have d7:U 7=.slice a2 T.ma.length c2:=(oz HJ).val 7 (zab hi 7 (by kernel_rfl))
   have hf:=oz HF w (oz HJ).bel
   go_simp
   refine (zqV T.ma hO.n2 _ _ _ hf.ti.r2).mono ?_
   rw [oz HX2]
   rintro e w' ⟨rfl,hb⟩
   exact hK _ _ ⟨zaa U 8 _,(by rw [zac d7];rfl),(oz HJ).put 8 _ h0 hb (zbp hb) rfl zbq (fun h =>absurd h (by decide))⟩
  ·refine wpOp_step rfl (fun K hK =>?_)
   clear hlt hif
   go_simp
   exact hK _ _ ⟨zaa U 9 _,rfl,(oz HJ).put 9 _ h0 (Below.refl _ _) (zbp (Below.refl _ _)) rfl zbq (fun h =>absurd h (by decide))⟩
  ·refine wpOp_step rfl (fun K hK =>?_)
   clear hlt hif
   have d9:U 9=.pointer (some ⟨W.heap.size,3,none⟩):=(oz HJ).val 9 (zab hi 9 (by kernel_rfl))
   have q0:=(oz HF w (oz HJ).bel).bx.cell 3
   go_simp
   exact hK _ _ ⟨zaa U 10 _,(by rw [zac d9];rfl),(oz HJ).put 10 _ h0 (Below.refl _ _) (zbp (Below.refl _ _)) rfl zbq (fun h =>absurd h (by decide))⟩
  ·refine wpOp_step rfl (fun K hK =>?_)
   clear hlt hif
   have d10:U 10=.slice a3 T.pr.length c3:=(oz HJ).val 10 (zab hi 10 (by kernel_rfl))
   have hf:=oz HF w (oz HJ).bel
   go_simp
   refine (zqU T.pr hO.n3 _ _ _ hf.ti.r3).mono ?_
   rw [oz HX3]
   rintro e w' ⟨rfl,hb⟩
   exact hK _ _ ⟨zaa U 11 _,(by rw [zac d10];rfl),(oz HJ).put 11 _ h0 hb (zbp hb) rfl zbq (fun h =>absurd h (by decide))⟩
  ·refine wpOp_step rfl (fun K hK =>?_)
   clear hlt hif
   go_simp
   exact hK _ _ ⟨zaa U 12 _,rfl,(oz HJ).put 12 _ h0 (Below.refl _ _) (zbp (Below.refl _ _)) rfl zbq (fun h =>absurd h (by decide))⟩
  ·refine wpOp_step rfl (fun K hK =>?_)
   clear hlt hif
   have d12:U 12=.pointer (some ⟨W.heap.size,4,none⟩):=(oz HJ).val 12 (zab hi 12 (by kernel_rfl))
   have q0:=(oz HF w (oz HJ).bel).bx.cell 4
   go_simp
   exact hK _ _ ⟨zaa U 13 _,(by rw [zac d12];rfl),(oz HJ).put 13 _ h0 (Below.refl _ _) (zbp (Below.refl _ _)) rfl zbq (fun h =>absurd h (by decide))⟩
  ·refine wpOp_step rfl (fun K hK =>?_)
   clear hlt hif
   have d13:U 13=.slice a4 T.fo.length c4:=(oz HJ).val 13 (zab hi 13 (by kernel_rfl))
   have hf:=oz HF w (oz HJ).bel
   go_simp
   refine (zpZ 5 T.fo hO.n4 hO.z4 _ _ _ hf.ti.r4).mono ?_
   rw [oz HX4]
   rintro e w' ⟨rfl,hb⟩
   exact hK _ _ ⟨zaa U 14 _,(by rw [zac d13];rfl),(oz HJ).put 14 _ h0 hb (zbp hb) rfl zbq (fun h =>absurd h (by decide))⟩
  ·refine wpOp_step rfl (fun K hK =>?_)
   clear hlt hif
   go_simp
   exact hK _ _ ⟨zaa U 15 _,rfl,(oz HJ).put 15 _ h0 (Below.refl _ _) (zbp (Below.refl _ _)) rfl zbq (fun h =>absurd h (by decide))⟩
  ·refine wpOp_step rfl (fun K hK =>?_)
   clear hlt hif
   have d15:U 15=.pointer (some ⟨W.heap.size,5,none⟩):=(oz HJ).val 15 (zab hi 15 (by kernel_rfl))
   have q0:=(oz HF w (oz HJ).bel).bx.cell 5
   go_simp
   exact hK _ _ ⟨zaa U 16 _,(by rw [zac d15];rfl),(oz HJ).put 16 _ h0 (Below.refl _ _) (zbp (Below.refl _ _)) rfl zbq (fun h =>absurd h (by decide))⟩
  ·refine wpOp_step rfl (fun K hK =>?_)
   clear hlt hif
   have d16:U 16=.slice a5 T.lk.length c5:=(oz HJ).val 16 (zab hi 16 (by kernel_rfl))
   have hf:=oz HF w (oz HJ).bel
   go_simp
   refine (zpZ 6 T.lk hO.n5 hO.z5 _ _ _ hf.ti.r5).mono ?_
   rw [oz HX5]
   rintro e w' ⟨rfl,hb⟩
   exact hK _ _ ⟨zaa U 17 _,(by rw [zac d16];rfl),(oz HJ).put 17 _ h0 hb (zbp hb) rfl zbq (fun h =>absurd h (by decide))⟩
  ·refine wpOp_step rfl (fun K hK =>?_)
   clear hlt hif
   go_simp
   exact hK _ _ ⟨zaa U 18 _,rfl,(oz HJ).put 18 _ h0 (Below.refl _ _) (zbp (Below.refl _ _)) rfl zbq (fun h =>absurd h (by decide))⟩
  ·refine wpOp_step rfl (fun K hK =>?_)
   clear hlt hif
   have d18:U 18=.pointer (some ⟨W.heap.size,6,none⟩):=(oz HJ).val 18 (zab hi 18 (by kernel_rfl))
   have q0:=(oz HF w (oz HJ).bel).bx.cell 6
   go_simp
   exact hK _ _ ⟨zaa U 19 _,(by rw [zac d18];rfl),(oz HJ).put 19 _ h0 (Below.refl _ _) (zbp (Below.refl _ _)) rfl zbq (fun h =>absurd h (by decide))⟩
  ·refine wpOp_step rfl (fun K hK =>?_)
   clear hlt hif
   have d19:U 19=.slice a6 T.dr.length c6:=(oz HJ).val 19 (zab hi 19 (by kernel_rfl))
   have hf:=oz HF w (oz HJ).bel
   go_simp
   refine (zdJ 7 T.dr hO.n6 _ _ _ (zei hf.ti.r6 (Nat.le_refl _))).mono ?_
   rw [oz HX6]
   rintro e w' ⟨rfl,hb⟩
   exact hK _ _ ⟨zaa U 20 _,(by rw [zac d19];rfl),(oz HJ).put 20 _ h0 hb (zbp hb) rfl zbq (fun h =>absurd h (by decide))⟩
  ·refine wpOp_step rfl (fun K hK =>?_)
   clear hlt hif
   go_simp
   exact hK _ _ ⟨zaa U 21 _,rfl,(oz HJ).put 21 _ h0 (Below.refl _ _) (zbp (Below.refl _ _)) rfl zbq (fun h =>absurd h (by decide))⟩
  ·refine wpOp_step rfl (fun K hK =>?_)
   clear hlt hif
   have d21:U 21=.pointer (some ⟨W.heap.size,7,none⟩):=(oz HJ).val 21 (zab hi 21 (by kernel_rfl))
   have q0:=(oz HF w (oz HJ).bel).bx.cell 7
   go_simp
   exact hK _ _ ⟨zaa U 22 _,(by rw [zac d21];rfl),(oz HJ).put 22 _ h0 (Below.refl _ _) (zbp (Below.refl _ _)) rfl zbq (fun h =>absurd h (by decide))⟩
  ·refine wpOp_step rfl (fun K hK =>?_)
   clear hlt hif
   have d22:U 22=.slice a7 T.al.length c7:=(oz HJ).val 22 (zab hi 22 (by kernel_rfl))
   have hf:=oz HF w (oz HJ).bel
   go_simp
   refine (zdJ 8 T.al hO.n7 _ _ _ (zei hf.ti.r7 (Nat.le_refl _))).mono ?_
   rw [oz HX7]
   rintro e w' ⟨rfl,hb⟩
   exact hK _ _ ⟨zaa U 23 _,(by rw [zac d22];rfl),(oz HJ).put 23 _ h0 hb (zbp hb) rfl zbq (fun h =>absurd h (by decide))⟩
  ·refine wpOp_step rfl (fun K hK =>?_)
   clear hlt hif
   have d2:U 2=wrV x0:=(oz HJ).val 2 (zab hi 2 (by kernel_rfl))
   have d5:U 5=wrV x1:=(oz HJ).val 5 (zab hi 5 (by kernel_rfl))
   have d8:U 8=wrV x2:=(oz HJ).val 8 (zab hi 8 (by kernel_rfl))
   have d11:U 11=wrV x3:=(oz HJ).val 11 (zab hi 11 (by kernel_rfl))
   have d14:U 14=wrV x4:=(oz HJ).val 14 (zab hi 14 (by kernel_rfl))
   have d17:U 17=wrV x5:=(oz HJ).val 17 (zab hi 17 (by kernel_rfl))
   have d20:U 20=wrV x6:=(oz HJ).val 20 (zab hi 20 (by kernel_rfl))
   have d23:U 23=wrV x7:=(oz HJ).val 23 (zab hi 23 (by kernel_rfl))
   unfold wrV at d2 d5 d8 d11 d14 d17 d20 d23
   go_simp
   exact hK _ _ ⟨zaa U 24 _,(by rw [zac d2,zac d5,zac d8,zac d11,zac d14,zac d17,zac d20,zac d23];rfl),(oz HJ).put 24 _ h0 ((Below.refl _ _).alloc (Nat.le_refl _) _) (zbp ((Below.refl _ _).alloc (Nat.le_refl _) _)) ⟨_,rfl,by simp,zdo w _ [x0,x1,x2,x3,x4,x5,x6,x7] _ _ rfl rfl⟩ zbq (fun h =>absurd h (by decide))⟩
  ·refine wpOp_step rfl (fun K hK =>?_)
   clear hlt hif
   obtain ⟨g24,d24,l24,h24⟩:=(oz HJ).val 24 (zab hi 24 (by kernel_rfl))
   go_simp
   refine (zb5 [x0,x1,x2,x3,x4,x5,x6,x7] (by simp) (oz HOK) _ 0 _ _ l24 h24).mono ?_
   rintro e w' ⟨rfl,hb⟩
   exact hK _ _ ⟨zaa U 25 _,(by rw [zac d24];rfl),(oz HJ).put 25 _ h0 hb (zbp hb) rfl zbq (fun h =>absurd h (by decide))⟩
 ·rintro l a w ⟨U,rfl,hJ⟩ hall
  have d25:U 25=wrV (orW [x0,x1,x2,x3,x4,x5,x6,x7]):=hJ.val 25 (hall 25 (by decide) (by decide))
  have HBJ:=kz (And.intro ((oz HB).trans (hJ.bel.mono (oz HB).size)) (oz HF w hJ.bel).rs)
  clear hJ hall
  refine wpOp_step rfl (fun K hK =>?_)
  obtain ⟨y,hy⟩:∃ y,orW [x0,x1,x2,x3,x4,x5,x6,x7]=y:=⟨_,rfl⟩
  rw [hy] at d25
  have HY:=kz hy
  clear hy
  obtain ⟨y0,y1,y2⟩:=y
  unfold wrV at d25
  have r0:=(oz HBJ).2.cell 0
  have f0:=(oz HBJ).2.frozen 0
  have r1:=(oz HBJ).2.cell 1
  have f1:=(oz HBJ).2.frozen 1
  have r2:=(oz HBJ).2.cell 2
  have f2:=(oz HBJ).2.frozen 2
  go_simp
  refine hK _ _ ?_
  clear hK
  go_wp2_with fail
  exact bodyPost_ret (v:=wrV (y0,y1,y2)) (zco Tryz.results72 rfl (zcw (oz HBJ).2 _ _ _) rfl) rfl ⟨by rw [oz HY],za0 (oz HBJ).1 (by omega) (oz HBJ).1.size _ _ _⟩
end Go.Proofs.YtmemedpoaocdkaaGreat
namespace Go.Proofs.YtmemedpoaocdkaaGreat
open Go.RowKit Go.Shelf Go.Maps
set_option linter.unusedVariables false
def SeenAt (w:World) (kt:TypeId) (M n:Nat) (S:Lit→Prop):Prop := ∃ D:DataW Unit,w.ownsMap Tryz.prog kt unitElem M n D∧∀ kl,WideAt.IsKeyLit kl→(Maps.has D kl=true ↔ S kl)
theorem zeI (w:World) (kt:TypeId):SeenAt (w.alloc (.map #[] 0)) kt w.heap.size 0 (fun _ =>False) :=
 ⟨.map [],World.ownsMap_made w Tryz.prog kt unitElem,fun kl _ =>by simp [Maps.has]⟩
theorem SeenAt.kept {w w':World} {kt:TypeId} {M n:Nat} {S:Lit→Prop} {row:Option Nat} (h:SeenAt w kt M n S) (hg:w.grownBy w' row) (hne:some M≠row):SeenAt w' kt M n S:=by
 obtain ⟨D,h1,h2⟩:=h
 exact ⟨D,h1.kept hg hne,h2⟩
theorem SeenAt.below {w w':World} {kt:TypeId} {M n:Nat} {S:Lit→Prop} (h:SeenAt w kt M n S) (hb:Below w.heap.size w w'):SeenAt w' kt M n S:=h.kept (zgC (row:=none) hb) (by simp)
theorem SeenAt.lt {w:World} {kt:TypeId} {M n:Nat} {S:Lit→Prop} (h:SeenAt w kt M n S):M < w.heap.size:=by
 obtain ⟨D,h1,_⟩:=h
 exact h1.lt
theorem zfE {w:World} {kt:TypeId} {M n:Nat} {D:DataW Unit} {S:Lit→Prop} {k:Lit} {w0:World} (h0:w0.ownsMap Tryz.prog kt unitElem M n D) (hs:∀ kl,WideAt.IsKeyLit kl→(Maps.has D kl=true ↔ S kl)) (hk:WideAt.IsKeyLit k) (h:w.ownsMap Tryz.prog kt unitElem M (n+1) (D.put k (.agg []))):SeenAt w kt M (n+1) (fun kl =>kl=k∨S kl):=by
 refine ⟨_,h,fun kl hkl =>?_⟩
 by_cases e:kl=k
 ·subst e
  simp [has_put_same h0.isMap hk]
 ·rw [has_put_other e,hs kl hkl]
  simp [e]
structure AgAt (w:World) (KB SB M kf n:Nat) (ft mt kt:TypeId) (S:Lit→Prop):Prop where
 kb:Blk w KB #[.func (.func kf) #[] #[]] ft
 sb:Blk w SB #[.map (some M)] mt
 se:SeenAt w kt M n S
 ks:KB≠M
 ss:SB≠M
theorem AgAt.below {w w':World} {KB SB M kf n:Nat} {ft mt kt:TypeId} {S:Lit→Prop} (h:AgAt w KB SB M kf n ft mt kt S) (hb:Below w.heap.size w w'):AgAt w' KB SB M kf n ft mt kt S:=⟨h.kb.below hb h.kb.lt,h.sb.below hb h.sb.lt,h.se.below hb,h.ks,h.ss⟩
theorem zeP {w w':World} {M:Nat} (h:w.grownBy w' (some M)):KeptX (fun b =>b=M) w w':=⟨h.os,h.tape,h.output,h.size,fun k hk hx =>h.block k hk (fun e =>hx (Option.some.inj e))⟩
set_option maxRecDepth 100000 in
theorem zkv (x1 x2 x3:Int) (w:World):Calls Tryz.prog 116 #[.agg #[.int .i32 x1,.int .i32 x2,.int .i32 x3]] w fun e w' =>e=.returned (.int .i32 x1)∧Below w.heap.size w w':=by
 go_enter Tryz.func116,Tryz.ntmps116
 go_wp2
 go_ret
 exact ⟨rfl,(Below.refl _ w).alloc (Nat.le_refl _) _⟩
set_option maxRecDepth 100000 in
theorem zkt (x1:Int) (x2:ByteArray) (w:World):Calls Tryz.prog 119 #[.agg #[.int .i32 x1,.string x2]] w fun e w' =>e=.returned (.int .i32 x1)∧Below w.heap.size w w':=by
 go_enter Tryz.func119,Tryz.ntmps119
 go_wp2
 go_ret
 exact ⟨rfl,(Below.refl _ w).alloc (Nat.le_refl _) _⟩
set_option maxRecDepth 100000 in
theorem zks (x1:ByteArray) (p:Option Addr) (n d:Nat) (w:World):Calls Tryz.prog 121 #[.agg #[.string x1,.slice p n d]] w fun e w' =>e=.returned (.string x1)∧Below w.heap.size w w':=by
 go_enter Tryz.func121,Tryz.ntmps121
 go_wp2
 go_ret
 exact ⟨rfl,(Below.refl _ w).alloc (Nat.le_refl _) _⟩
set_option maxRecDepth 100000 in
theorem zkr (x1 x2:Int) (w:World):Calls Tryz.prog 123 #[.agg #[.int .i32 x1,.int .i64 x2]] w fun e w' =>e=.returned (.int .i32 x1)∧Below w.heap.size w w':=by
 go_enter Tryz.func123,Tryz.ntmps123
 go_wp2
 go_ret
 exact ⟨rfl,(Below.refl _ w).alloc (Nat.le_refl _) _⟩
set_option maxRecDepth 100000 in
theorem zku (x1 x2 x3:Int) (w:World):Calls Tryz.prog 118 #[.agg #[.int .i32 x1,.int .i32 x2,.int .i32 x3]] w fun e w' =>e=.returned (.agg #[.int .i32 x2,.int .i32 x3])∧Below w.heap.size w w':=by
 go_enter Tryz.func118,Tryz.ntmps118
 go_wp2
 exact bodyPost_ret (v := .agg #[.int .i32 x2,.int .i32 x3]) (by simp [results,Tryz.results118,go_sem]) rfl ⟨rfl,((Below.refl _ w).alloc (Nat.le_refl _) _).alloc (by simp) _⟩
set_option maxRecDepth 100000 in
set_option maxHeartbeats 2000000 in
theorem zmi (x1 x2:Int) (k:Lit) (hk:keyOf Tryz.prog 21 (.int .i32 x1)=some k) (hkl:WideAt.IsKeyLit k) (KB SB M n:Nat) (hn:n≤1000000) (S:Lit→Prop) (w:World) (h:AgAt w KB SB M 123 n 173 200 21 S) :
  Calls Tryz.prog 177 #[.agg #[.int .i32 x1,.int .i64 x2],.pointer (some ⟨KB,0,none⟩),.pointer (some ⟨SB,0,none⟩)] w fun e w' =>(∃ b:Bool,e=.returned (.int .i64 (if b=true then 14 else 0))∧(b=true ↔ S k))∧AgAt w' KB SB M 123 (n+1) 173 200 21 (fun kl =>kl=k∨S kl)∧KeptX (fun b =>b=M) w w':=by
 have hB0:Below w.heap.size w (w.alloc (.cells #[.int .i32 x1,.int .i64 x2] 115)):=(Below.refl _ w).alloc (Nat.le_refl _) _
 have H0:=kz (And.intro (h.below hB0) hB0)
 have b1:=(oz H0).1.kb.cell 0
 have HK:=kz (And.intro hk hkl)
 clear hB0 h hk hkl
 go_enter Tryz.func177,Tryz.ntmps177
 go_wp2_with fail
 generalize w.alloc (.cells #[.int .i32 x1,.int .i64 x2] 115)=w1 at *
 refine (zkr x1 x2 w1).mono ?_
 rintro e w2 ⟨rfl,hb⟩
 have H2:=kz (And.intro ((oz H0).1.below hb) ((oz H0).2.trans (hb.mono (oz H0).2.size)))
 have b2:=(oz H2).1.sb.cell 0
 clear hb H0 b1
 obtain ⟨D,hD,hS⟩:=(oz H2).1.se
 have HD:=kz (And.intro hD hS)
 clear hD hS
 obtain ⟨v,ps,hl,hv⟩:=(oz HD).1.look_ok (int_keyed Tryz.underlying21) Tryz.underlying200 (z := .agg #[]) (by kernel_rfl) unitElem_mk (oz HK).1
 obtain ⟨rfl,_⟩:=unitElem_inv hv
 have HS2:=kz ((oz HD).2 k (oz HK).2)
 clear hv
 generalize Maps.has D k=b at *
 have HD2:=kz ((oz HD).1.alloc (.cells #[] 201))
 obtain ⟨w3,hu,r1,r2⟩:=(oz HD2).update (int_keyed Tryz.underlying21) Tryz.underlying200 (by unfold maxLen;omega) (oz HK).1 unitElem_mk
 have b3:(w2.alloc (.cells #[] 201)).cell? ⟨SB,0,none⟩=some (.map (some M)):=((oz H2).1.sb.alloc _).cell 0
 have HR:=kz (And.intro r1 r2)
 clear r1 r2
 obtain ⟨z,hz⟩:∃ z:Int,(if b=true then 14 else 0)=z:=⟨_,rfl⟩
 have HZ:=kz hz
 clear hz
 have HW:=kz (zaI b 14 w3)
 rw [oz HZ] at HW
 go_wp2_with fail
 refine (oz HW).mono ?_
 rintro e w4 ⟨rfl,hw4⟩
 rw [hw4]
 clear hw4 HW hl hu b2 b3
 go_wp2_with fail
 go_ret
 have h2:=(oz H2).1
 have hg:=(oz HR).2
 refine ⟨⟨b,by rw [oz HZ];rfl,oz HS2⟩,⟨(h2.kb.alloc _).kept hg (fun e =>h2.ks (Option.some.inj e)),(h2.sb.alloc _).kept hg (fun e =>h2.ss (Option.some.inj e)),zfE (oz HD2) (oz HD).2 (oz HK).2 (oz HR).1,h2.ks,h2.ss⟩, ?_⟩
 exact (zat (zcU (oz H2).2 (oz H2).2.size _) _).trans (zeP hg)
set_option maxRecDepth 100000 in
set_option maxHeartbeats 2000000 in
theorem zkM (x1 x2 x3:Int) (k:Lit) (hk:keyOf Tryz.prog 21 (.int .i32 x1)=some k) (hkl:WideAt.IsKeyLit k) (KB SB M n:Nat) (hn:n≤1000000) (S:Lit→Prop) (w:World) (h:AgAt w KB SB M 116 n 166 200 21 S) :
  Calls Tryz.prog 174 #[.agg #[.int .i32 x1,.int .i32 x2,.int .i32 x3],.pointer (some ⟨KB,0,none⟩),.pointer (some ⟨SB,0,none⟩)] w fun e w' =>(∃ b:Bool,e=.returned (.int .i64 (if b=true then 14 else 0))∧(b=true ↔ S k))∧AgAt w' KB SB M 116 (n+1) 166 200 21 (fun kl =>kl=k∨S kl)∧KeptX (fun b =>b=M) w w':=by
 have hB0:Below w.heap.size w (w.alloc (.cells #[.int .i32 x1,.int .i32 x2,.int .i32 x3] 117)):=(Below.refl _ w).alloc (Nat.le_refl _) _
 have H0:=kz (And.intro (h.below hB0) hB0)
 have b1:=(oz H0).1.kb.cell 0
 have HK:=kz (And.intro hk hkl)
 clear hB0 h hk hkl
 go_enter Tryz.func174,Tryz.ntmps174
 go_wp2_with fail
 generalize w.alloc (.cells #[.int .i32 x1,.int .i32 x2,.int .i32 x3] 117)=w1 at *
 refine (zkv x1 x2 x3 w1).mono ?_
 rintro e w2 ⟨rfl,hb⟩
 have H2:=kz (And.intro ((oz H0).1.below hb) ((oz H0).2.trans (hb.mono (oz H0).2.size)))
 have b2:=(oz H2).1.sb.cell 0
 clear hb H0 b1
 obtain ⟨D,hD,hS⟩:=(oz H2).1.se
 have HD:=kz (And.intro hD hS)
 clear hD hS
 obtain ⟨v,ps,hl,hv⟩:=(oz HD).1.look_ok (int_keyed Tryz.underlying21) Tryz.underlying200 (z := .agg #[]) (by kernel_rfl) unitElem_mk (oz HK).1
 obtain ⟨rfl,_⟩:=unitElem_inv hv
 have HS2:=kz ((oz HD).2 k (oz HK).2)
 clear hv
 generalize Maps.has D k=b at *
 have HD2:=kz ((oz HD).1.alloc (.cells #[] 201))
 obtain ⟨w3,hu,r1,r2⟩:=(oz HD2).update (int_keyed Tryz.underlying21) Tryz.underlying200 (by unfold maxLen;omega) (oz HK).1 unitElem_mk
 have b3:(w2.alloc (.cells #[] 201)).cell? ⟨SB,0,none⟩=some (.map (some M)):=((oz H2).1.sb.alloc _).cell 0
 have HR:=kz (And.intro r1 r2)
 clear r1 r2
 obtain ⟨z,hz⟩:∃ z:Int,(if b=true then 14 else 0)=z:=⟨_,rfl⟩
 have HZ:=kz hz
 clear hz
 have HW:=kz (zaI b 14 w3)
 rw [oz HZ] at HW
 go_wp2_with fail
 refine (oz HW).mono ?_
 rintro e w4 ⟨rfl,hw4⟩
 rw [hw4]
 clear hw4 HW hl hu b2 b3
 go_wp2_with fail
 go_ret
 have h2:=(oz H2).1
 have hg:=(oz HR).2
 refine ⟨⟨b,by rw [oz HZ];rfl,oz HS2⟩,⟨(h2.kb.alloc _).kept hg (fun e =>h2.ks (Option.some.inj e)),(h2.sb.alloc _).kept hg (fun e =>h2.ss (Option.some.inj e)),zfE (oz HD2) (oz HD).2 (oz HK).2 (oz HR).1,h2.ks,h2.ss⟩, ?_⟩
 exact (zat (zcU (oz H2).2 (oz H2).2.size _) _).trans (zeP hg)
set_option maxRecDepth 100000 in
set_option maxHeartbeats 2000000 in
theorem zn0 (x1:Int) (x2:ByteArray) (k:Lit) (hk:keyOf Tryz.prog 21 (.int .i32 x1)=some k) (hkl:WideAt.IsKeyLit k) (KB SB M n:Nat) (hn:n≤1000000) (S:Lit→Prop) (w:World) (h:AgAt w KB SB M 119 n 169 200 21 S) :
  Calls Tryz.prog 178 #[.agg #[.int .i32 x1,.string x2],.pointer (some ⟨KB,0,none⟩),.pointer (some ⟨SB,0,none⟩)] w fun e w' =>(∃ b:Bool,e=.returned (.int .i64 (if b=true then 14 else 0))∧(b=true ↔ S k))∧AgAt w' KB SB M 119 (n+1) 169 200 21 (fun kl =>kl=k∨S kl)∧KeptX (fun b =>b=M) w w':=by
 have hB0:Below w.heap.size w (w.alloc (.cells #[.int .i32 x1,.string x2] 119)):=(Below.refl _ w).alloc (Nat.le_refl _) _
 have H0:=kz (And.intro (h.below hB0) hB0)
 have b1:=(oz H0).1.kb.cell 0
 have HK:=kz (And.intro hk hkl)
 clear hB0 h hk hkl
 go_enter Tryz.func178,Tryz.ntmps178
 go_wp2_with fail
 generalize w.alloc (.cells #[.int .i32 x1,.string x2] 119)=w1 at *
 refine (zkt x1 x2 w1).mono ?_
 rintro e w2 ⟨rfl,hb⟩
 have H2:=kz (And.intro ((oz H0).1.below hb) ((oz H0).2.trans (hb.mono (oz H0).2.size)))
 have b2:=(oz H2).1.sb.cell 0
 clear hb H0 b1
 obtain ⟨D,hD,hS⟩:=(oz H2).1.se
 have HD:=kz (And.intro hD hS)
 clear hD hS
 obtain ⟨v,ps,hl,hv⟩:=(oz HD).1.look_ok (int_keyed Tryz.underlying21) Tryz.underlying200 (z := .agg #[]) (by kernel_rfl) unitElem_mk (oz HK).1
 obtain ⟨rfl,_⟩:=unitElem_inv hv
 have HS2:=kz ((oz HD).2 k (oz HK).2)
 clear hv
 generalize Maps.has D k=b at *
 have HD2:=kz ((oz HD).1.alloc (.cells #[] 201))
 obtain ⟨w3,hu,r1,r2⟩:=(oz HD2).update (int_keyed Tryz.underlying21) Tryz.underlying200 (by unfold maxLen;omega) (oz HK).1 unitElem_mk
 have b3:(w2.alloc (.cells #[] 201)).cell? ⟨SB,0,none⟩=some (.map (some M)):=((oz H2).1.sb.alloc _).cell 0
 have HR:=kz (And.intro r1 r2)
 clear r1 r2
 obtain ⟨z,hz⟩:∃ z:Int,(if b=true then 14 else 0)=z:=⟨_,rfl⟩
 have HZ:=kz hz
 clear hz
 have HW:=kz (zaI b 14 w3)
 rw [oz HZ] at HW
 go_wp2_with fail
 refine (oz HW).mono ?_
 rintro e w4 ⟨rfl,hw4⟩
 rw [hw4]
 clear hw4 HW hl hu b2 b3
 go_wp2_with fail
 go_ret
 have h2:=(oz H2).1
 have hg:=(oz HR).2
 refine ⟨⟨b,by rw [oz HZ];rfl,oz HS2⟩,⟨(h2.kb.alloc _).kept hg (fun e =>h2.ks (Option.some.inj e)),(h2.sb.alloc _).kept hg (fun e =>h2.ss (Option.some.inj e)),zfE (oz HD2) (oz HD).2 (oz HK).2 (oz HR).1,h2.ks,h2.ss⟩, ?_⟩
 exact (zat (zcU (oz H2).2 (oz H2).2.size _) _).trans (zeP hg)
set_option maxRecDepth 100000 in
set_option maxHeartbeats 2000000 in
theorem zjP (x1:ByteArray) (pp:Option Addr) (nn dd:Nat) (k:Lit) (hk:keyOf Tryz.prog 9 (.string x1)=some k) (hkl:WideAt.IsKeyLit k) (KB SB M n:Nat) (hn:n≤1000000) (S:Lit→Prop) (w:World) (h:AgAt w KB SB M 121 n 171 204 9 S) :
  Calls Tryz.prog 176 #[.agg #[.string x1,.slice pp nn dd],.pointer (some ⟨KB,0,none⟩),.pointer (some ⟨SB,0,none⟩)] w fun e w' =>(∃ b:Bool,e=.returned (.int .i64 (if b=true then 14 else 0))∧(b=true ↔ S k))∧AgAt w' KB SB M 121 (n+1) 171 204 9 (fun kl =>kl=k∨S kl)∧KeptX (fun b =>b=M) w w':=by
 have hB0:Below w.heap.size w (w.alloc (.cells #[.string x1,.slice pp nn dd] 109)):=(Below.refl _ w).alloc (Nat.le_refl _) _
 have H0:=kz (And.intro (h.below hB0) hB0)
 have b1:=(oz H0).1.kb.cell 0
 have HK:=kz (And.intro hk hkl)
 clear hB0 h hk hkl
 go_enter Tryz.func176,Tryz.ntmps176
 go_wp2_with fail
 generalize w.alloc (.cells #[.string x1,.slice pp nn dd] 109)=w1 at *
 refine (zks x1 pp nn dd w1).mono ?_
 rintro e w2 ⟨rfl,hb⟩
 have H2:=kz (And.intro ((oz H0).1.below hb) ((oz H0).2.trans (hb.mono (oz H0).2.size)))
 have b2:=(oz H2).1.sb.cell 0
 clear hb H0 b1
 obtain ⟨D,hD,hS⟩:=(oz H2).1.se
 have HD:=kz (And.intro hD hS)
 clear hD hS
 obtain ⟨v,ps,hl,hv⟩:=(oz HD).1.look_ok (string_keyed Tryz.underlying9) Tryz.underlying204 (z := .agg #[]) (by kernel_rfl) unitElem_mk (oz HK).1
 obtain ⟨rfl,_⟩:=unitElem_inv hv
 have HS2:=kz ((oz HD).2 k (oz HK).2)
 clear hv
 generalize Maps.has D k=b at *
 have HD2:=kz ((oz HD).1.alloc (.cells #[] 201))
 obtain ⟨w3,hu,r1,r2⟩:=(oz HD2).update (string_keyed Tryz.underlying9) Tryz.underlying204 (by unfold maxLen;omega) (oz HK).1 unitElem_mk
 have b3:(w2.alloc (.cells #[] 201)).cell? ⟨SB,0,none⟩=some (.map (some M)):=((oz H2).1.sb.alloc _).cell 0
 have HR:=kz (And.intro r1 r2)
 clear r1 r2
 obtain ⟨z,hz⟩:∃ z:Int,(if b=true then 14 else 0)=z:=⟨_,rfl⟩
 have HZ:=kz hz
 clear hz
 have HW:=kz (zaI b 14 w3)
 rw [oz HZ] at HW
 go_wp2_with fail
 refine (oz HW).mono ?_
 rintro e w4 ⟨rfl,hw4⟩
 rw [hw4]
 clear hw4 HW hl hu b2 b3
 go_wp2_with fail
 go_ret
 have h2:=(oz H2).1
 have hg:=(oz HR).2
 refine ⟨⟨b,by rw [oz HZ];rfl,oz HS2⟩,⟨(h2.kb.alloc _).kept hg (fun e =>h2.ks (Option.some.inj e)),(h2.sb.alloc _).kept hg (fun e =>h2.ss (Option.some.inj e)),zfE (oz HD2) (oz HD).2 (oz HK).2 (oz HR).1,h2.ks,h2.ss⟩, ?_⟩
 exact (zat (zcU (oz H2).2 (oz H2).2.size _) _).trans (zeP hg)
theorem zrQ:WideMaps.ArrKey Tryz.prog 134 21 2:=⟨Tryz.underlying134,by kernel_rfl,by kernel_rfl,by kernel_rfl⟩
theorem arr_keyed:Keyed Tryz.prog 134:=Keyed.of_law (WideMaps.ArrKey.law zrQ)
set_option maxRecDepth 100000 in
set_option maxHeartbeats 2000000 in
theorem zkN (x1 x2 x3:Int) (k:Lit) (hk:keyOf Tryz.prog 134 (.agg #[.int .i32 x2,.int .i32 x3])=some k) (hkl:WideAt.IsKeyLit k) (KB SB M n:Nat) (hn:n≤1000000) (S:Lit→Prop) (w:World) (h:AgAt w KB SB M 118 n 168 203 134 S) :
  Calls Tryz.prog 175 #[.agg #[.int .i32 x1,.int .i32 x2,.int .i32 x3],.pointer (some ⟨KB,0,none⟩),.pointer (some ⟨SB,0,none⟩)] w fun e w' =>(∃ b:Bool,e=.returned (.int .i64 (if b=true then 14 else 0))∧(b=true ↔ S k))∧AgAt w' KB SB M 118 (n+1) 168 203 134 (fun kl =>kl=k∨S kl)∧KeptX (fun b =>b=M) w w':=by
 have hB0:Below w.heap.size w (w.alloc (.cells #[.int .i32 x1,.int .i32 x2,.int .i32 x3] 117)):=(Below.refl _ w).alloc (Nat.le_refl _) _
 have H0:=kz (And.intro (h.below hB0) hB0)
 have b1:=(oz H0).1.kb.cell 0
 have HK:=kz (And.intro hk hkl)
 clear hB0 h hk hkl
 go_enter Tryz.func175,Tryz.ntmps175
 go_wp2_with fail
 generalize w.alloc (.cells #[.int .i32 x1,.int .i32 x2,.int .i32 x3] 117)=w1 at *
 refine (zku x1 x2 x3 w1).mono ?_
 rintro e w2 ⟨rfl,hb⟩
 have H2:=kz (And.intro ((oz H0).1.below hb) ((oz H0).2.trans (hb.mono (oz H0).2.size)))
 clear hb H0 b1
 have H2:=kz (And.intro ((oz H2).1.below ((Below.refl _ w2).alloc (Nat.le_refl _) (.cells #[.int .i32 x2,.int .i32 x3] 134))) ((oz H2).2.alloc (oz H2).2.size (.cells #[.int .i32 x2,.int .i32 x3] 134)))
 have b2:=(oz H2).1.sb.cell 0
 obtain ⟨D,hD,hS⟩:=(oz H2).1.se
 have HD:=kz (And.intro hD hS)
 clear hD hS
 obtain ⟨v,ps,hl,hv⟩:=(oz HD).1.look_ok arr_keyed Tryz.underlying203 (z := .agg #[]) (by kernel_rfl) unitElem_mk (oz HK).1
 obtain ⟨rfl,_⟩:=unitElem_inv hv
 have HS2:=kz ((oz HD).2 k (oz HK).2)
 clear hv
 generalize Maps.has D k=b at *
 have HD2:=kz ((oz HD).1.alloc (.cells #[] 201))
 obtain ⟨w3,hu,r1,r2⟩:=(oz HD2).update arr_keyed Tryz.underlying203 (by unfold maxLen;omega) (oz HK).1 unitElem_mk
 have b3:((w2.alloc (.cells #[.int .i32 x2,.int .i32 x3] 134)).alloc (.cells #[] 201)).cell? ⟨SB,0,none⟩=some (.map (some M)):=((oz H2).1.sb.alloc _).cell 0
 have HR:=kz (And.intro r1 r2)
 clear r1 r2
 obtain ⟨z,hz⟩:∃ z:Int,(if b=true then 14 else 0)=z:=⟨_,rfl⟩
 have HZ:=kz hz
 clear hz
 have HW:=kz (zaI b 14 w3)
 rw [oz HZ] at HW
 go_wp2_with fail
 refine (oz HW).mono ?_
 rintro e w4 ⟨rfl,hw4⟩
 rw [hw4]
 clear hw4 HW hl hu b2 b3
 go_wp2_with fail
 go_ret
 have h2:=(oz H2).1
 have hg:=(oz HR).2
 refine ⟨⟨b,by rw [oz HZ];rfl,oz HS2⟩,⟨(h2.kb.alloc _).kept hg (fun e =>h2.ks (Option.some.inj e)),(h2.sb.alloc _).kept hg (fun e =>h2.ss (Option.some.inj e)),zfE (oz HD2) (oz HD).2 (oz HK).2 (oz HR).1,h2.ks,h2.ss⟩, ?_⟩
 exact (zat (zcU (oz H2).2 (oz H2).2.size _) _).trans (zeP hg)
end Go.Proofs.YtmemedpoaocdkaaGreat
