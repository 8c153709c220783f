/- Texts of this claim, one behind the other. -/
import Derived.Test.YtmemedpoaocdkaaGreatM29
import Derived.Test.YtmemedpoaocdkaaGreatM24
/- A Book of tables: bookOf. -/
namespace Go.Proofs.YtmemedpoaocdkaaGreat
open Go.RowKit Go.Shelf Go.Maps
set_option linter.unusedVariables false
set_option maxRecDepth 100000 in
set_option maxHeartbeats 8000000 in
theorem zl2 (T:TV) (hO:zsp T) (a0 a1 a2 a3 a4 a5 a6 a7:Option Addr) (c0 c1 c2 c3 c4 c5 c6 c7:Nat) (us:List Value) (W:World) (hT:TabIn W T a0 a1 a2 a3 a4 a5 a6 a7 us) :
  Calls Tryz.prog 52 #[.agg #[.slice a0 T.sc.length c0,.slice a1 T.co.length c1,.slice a2 T.ma.length c2,.slice a3 T.pr.length c3,.slice a4 T.fo.length c4,.slice a5 T.lk.length c5,.slice a6 T.dr.length c6,.slice a7 T.al.length c7]] W fun e w' => ∃ B,e=.returned (.pointer (some ⟨B,0,none⟩))∧W.heap.size≤B∧BookAt w' B T∧Below W.heap.size W w':=by
 have hmx:Tryz.prog.follows .mixedOrders=true:=by kernel_rfl
 have hmm:=@run_makeMap Tryz.prog
 have hB0:Below W.heap.size W (W.alloc (.cells #[.slice a0 T.sc.length c0,.slice a1 T.co.length c1,.slice a2 T.ma.length c2,.slice a3 T.pr.length c3,.slice a4 T.fo.length c4,.slice a5 T.lk.length c5,.slice a6 T.dr.length c6,.slice a7 T.al.length c7] 28)).drew:=((Below.refl _ W).alloc (Nat.le_refl _) _).trans ⟨rfl,rfl,rfl,Nat.le_refl _,fun _ _ =>rfl⟩
 have bP:Blk (W.alloc (.cells #[.slice a0 T.sc.length c0,.slice a1 T.co.length c1,.slice a2 T.ma.length c2,.slice a3 T.pr.length c3,.slice a4 T.fo.length c4,.slice a5 T.lk.length c5,.slice a6 T.dr.length c6,.slice a7 T.al.length c7] 28)).drew W.heap.size #[.slice a0 T.sc.length c0,.slice a1 T.co.length c1,.slice a2 T.ma.length c2,.slice a3 T.pr.length c3,.slice a4 T.fo.length c4,.slice a5 T.lk.length c5,.slice a6 T.dr.length c6,.slice a7 T.al.length c7] 28:=Blk.new W #[.slice a0 T.sc.length c0,.slice a1 T.co.length c1,.slice a2 T.ma.length c2,.slice a3 T.pr.length c3,.slice a4 T.fo.length c4,.slice a5 T.lk.length c5,.slice a6 T.dr.length c6,.slice a7 T.al.length c7] 28
 have HS1:Hz ((W.alloc (.cells #[.slice a0 T.sc.length c0,.slice a1 T.co.length c1,.slice a2 T.ma.length c2,.slice a3 T.pr.length c3,.slice a4 T.fo.length c4,.slice a5 T.lk.length c5,.slice a6 T.dr.length c6,.slice a7 T.al.length c7] 28)).drew.heap.size=W.heap.size+1):=kz (by show (W.alloc (.cells #[.slice a0 T.sc.length c0,.slice a1 T.co.length c1,.slice a2 T.ma.length c2,.slice a3 T.pr.length c3,.slice a4 T.fo.length c4,.slice a5 T.lk.length c5,.slice a6 T.dr.length c6,.slice a7 T.al.length c7] 28)).heap.size=_;simp)
 have hF:BoF (W.alloc (.cells #[.slice a0 T.sc.length c0,.slice a1 T.co.length c1,.slice a2 T.ma.length c2,.slice a3 T.pr.length c3,.slice a4 T.fo.length c4,.slice a5 T.lk.length c5,.slice a6 T.dr.length c6,.slice a7 T.al.length c7] 28)).drew W.heap.size T a0 a1 a2 a3 a4 a5 a6 a7 c0 c1 c2 c3 c4 c5 c6 c7 us:=⟨bP,hT.lower hB0⟩
 have HF:Hz (∀ w1,Below (W.alloc (.cells #[.slice a0 T.sc.length c0,.slice a1 T.co.length c1,.slice a2 T.ma.length c2,.slice a3 T.pr.length c3,.slice a4 T.fo.length c4,.slice a5 T.lk.length c5,.slice a6 T.dr.length c6,.slice a7 T.al.length c7] 28)).drew.heap.size (W.alloc (.cells #[.slice a0 T.sc.length c0,.slice a1 T.co.length c1,.slice a2 T.ma.length c2,.slice a3 T.pr.length c3,.slice a4 T.fo.length c4,.slice a5 T.lk.length c5,.slice a6 T.dr.length c6,.slice a7 T.al.length c7] 28)).drew w1→BoF w1 W.heap.size T a0 a1 a2 a3 a4 a5 a6 a7 c0 c1 c2 c3 c4 c5 c6 c7 us):=kz (fun w1 h =>hF.below h)
 have HB0:=kz hB0
 have HT:=kz hT
 have HO:=kz hO
 clear hT hO bP hB0 hF
 go_enter Tryz.func52,Tryz.ntmps52
 go_wp2_with fail
 generalize (W.alloc (.cells #[.slice a0 T.sc.length c0,.slice a1 T.co.length c1,.slice a2 T.ma.length c2,.slice a3 T.pr.length c3,.slice a4 T.fo.length c4,.slice a5 T.lk.length c5,.slice a6 T.dr.length c6,.slice a7 T.al.length c7] 28))=wz at *
 refine zao hmx 22 (by decide) (by kernel_rfl) (by kernel_rfl) (fun l a w => ∃ U:Nat→Value,a = { tmps:=#[.agg #[.slice a0 T.sc.length c0,.slice a1 T.co.length c1,.slice a2 T.ma.length c2,.slice a3 T.pr.length c3,.slice a4 T.fo.length c4,.slice a5 T.lk.length c5,.slice a6 T.dr.length c6,.slice a7 T.al.length c7],.pointer (some ⟨W.heap.size,0,none⟩),.pointer none,undef,undef,undef,undef,undef,undef,undef,undef,U 0,U 1,U 2,U 3,U 4,U 5,U 6,U 7,U 8,U 9,U 10,U 11,U 12,U 13,U 14,U 15,U 16,U 17,U 18,U 19,U 20,U 21,undef,undef,undef,undef,undef,undef,undef,undef,undef,undef,undef,undef,undef,undef,undef,undef,undef,undef,undef,undef,undef,undef,undef,undef,undef,undef,undef,undef,undef,undef,undef,undef,undef,undef,undef,undef,undef,undef,undef,undef,undef,undef,undef,undef,undef,undef,undef,undef,undef,undef,undef,undef,undef,undef,undef,undef,undef,undef,undef,undef,undef,undef,undef,undef,undef,undef,undef,undef],defers := [] }∧RgK wz.drew wz.drew.heap.size (boD W.heap.size wz.drew.heap.size T a0 a1 a2 a3 a4 a5 a6 a7 c0 c1 c2 c3 c4 c5 c6 c7) zrA zr9 l U w) ⟨fun _ =>undef,rfl,RgK.start _ _ (Nat.le_refl _)⟩ ?_ ?_
 ·rintro l a w i ⟨U,rfl,hJ⟩ hl hi hif
  have h0:=(mem_ready.1 hi).1
  have hlt:=zdB hl h0
  have HJ:=kz hJ
  clear hJ hl
  replace hlt:i < 23:=hlt
  obtain rfl | rfl | rfl | rfl | rfl | rfl | rfl | rfl | rfl | rfl | rfl | rfl | rfl | rfl | rfl | rfl | rfl | rfl | rfl | rfl | rfl | rfl:i=0∨i=1∨i=2∨i=3∨i=4∨i=5∨i=6∨i=7∨i=8∨i=9∨i=10∨i=11∨i=12∨i=13∨i=14∨i=15∨i=16∨i=17∨i=18∨i=19∨i=20∨i=21:=by omega
  ·refine wpOp_step rfl (fun K hK =>?_)
   clear hlt hif
   have q0:=(oz HF w (oz HJ).bel).bx.cell 0
   have q1:=(oz HF w (oz HJ).bel).bx.cell 1
   have q2:=(oz HF w (oz HJ).bel).bx.cell 2
   have q3:=(oz HF w (oz HJ).bel).bx.cell 3
   have q4:=(oz HF w (oz HJ).bel).bx.cell 4
   have q5:=(oz HF w (oz HJ).bel).bx.cell 5
   have q6:=(oz HF w (oz HJ).bel).bx.cell 6
   have q7:=(oz HF w (oz HJ).bel).bx.cell 7
   go_simp
   exact hK _ _ ⟨zaa U 0 _,rfl,(oz HJ).put 0 _ h0 (Below.refl _ _) (zbS (Below.refl _ _)) rfl zbT (fun h =>absurd h (by decide))⟩
  ·refine wpOp_step rfl (fun K hK =>?_)
   clear hlt hif
   have d0:U 0=.agg #[.slice a0 T.sc.length c0,.slice a1 T.co.length c1,.slice a2 T.ma.length c2,.slice a3 T.pr.length c3,.slice a4 T.fo.length c4,.slice a5 T.lk.length c5,.slice a6 T.dr.length c6,.slice a7 T.al.length c7]:=(oz HJ).val 0 (zab hi 0 (by kernel_rfl))
   go_simp
   refine (zqy T (oz HO).ok (oz HO).z0 (fun x hx =>((oz HO).z4 x hx).1) (fun x hx =>((oz HO).z5 x hx).1) a0 a1 a2 a3 a4 a5 a6 a7 c0 c1 c2 c3 c4 c5 c6 c7 us w (oz HF w (oz HJ).bel).ti).mono ?_
   rintro e w' ⟨vv,rfl,hown,hb⟩
   exact hK _ _ ⟨zaa U 1 _,(by rw [zac d0];rfl),(oz HJ).put 1 _ h0 hb (zbS hb) (hown.lower (oz HJ).sz) zbT (fun h =>absurd h (by decide))⟩
  ·refine wpOp_step rfl (fun K hK =>?_)
   clear hlt hif
   go_simp
   exact hK _ _ ⟨zaa U 2 _,rfl,(oz HJ).put 2 _ h0 (Below.refl _ _) (zbS (Below.refl _ _)) rfl zbT (fun h =>absurd h (by decide))⟩
  ·refine wpOp_step rfl (fun K hK =>?_)
   clear hlt hif
   have d2:U 2=.pointer (some ⟨W.heap.size,1,none⟩):=(oz HJ).val 2 (zab hi 2 (by kernel_rfl))
   have q0:=(oz HF w (oz HJ).bel).bx.cell 1
   go_simp
   exact hK _ _ ⟨zaa U 3 _,(by rw [zac d2];rfl),(oz HJ).put 3 _ h0 (Below.refl _ _) (zbS (Below.refl _ _)) rfl zbT (fun h =>absurd h (by decide))⟩
  ·refine wpOp_step rfl (fun K hK =>?_)
   clear hlt hif
   have d3:U 3=.slice a1 T.co.length c1:=(oz HJ).val 3 (zab hi 3 (by kernel_rfl))
   go_simp
   refine (zdV a1 c1 T.co (oz HO).ok.n1 (oz HO).r1 w (zei (oz HF w (oz HJ).bel).ti.r1 (Nat.le_refl _))).mono ?_
   rintro e w' ⟨B,rfl,hs,hb⟩
   exact hK _ _ ⟨zaa U 4 _,(by rw [zac d3];rfl),(oz HJ).put 4 _ h0 hb (zbS hb) ⟨B,rfl,hs⟩ zbT (fun h =>absurd h (by decide))⟩
  ·refine wpOp_step rfl (fun K hK =>?_)
   clear hlt hif
   go_simp
   exact hK _ _ ⟨zaa U 5 _,rfl,(oz HJ).put 5 _ h0 (Below.refl _ _) (zbS (Below.refl _ _)) rfl zbT (fun h =>absurd h (by decide))⟩
  ·refine wpOp_step rfl (fun K hK =>?_)
   clear hlt hif
   have d5:U 5=.pointer (some ⟨W.heap.size,6,none⟩):=(oz HJ).val 5 (zab hi 5 (by kernel_rfl))
   have q0:=(oz HF w (oz HJ).bel).bx.cell 6
   go_simp
   exact hK _ _ ⟨zaa U 6 _,(by rw [zac d5];rfl),(oz HJ).put 6 _ h0 (Below.refl _ _) (zbS (Below.refl _ _)) rfl zbT (fun h =>absurd h (by decide))⟩
  ·refine wpOp_step rfl (fun K hK =>?_)
   clear hlt hif
   have d6:U 6=.slice a6 T.dr.length c6:=(oz HJ).val 6 (zab hi 6 (by kernel_rfl))
   go_simp
   refine (zdV a6 c6 T.dr (oz HO).ok.n6 (oz HO).r6 w (zei (oz HF w (oz HJ).bel).ti.r6 (Nat.le_refl _))).mono ?_
   rintro e w' ⟨B,rfl,hs,hb⟩
   exact hK _ _ ⟨zaa U 7 _,(by rw [zac d6];rfl),(oz HJ).put 7 _ h0 hb (zbS hb) ⟨B,rfl,hs⟩ zbT (fun h =>absurd h (by decide))⟩
  ·refine wpOp_step rfl (fun K hK =>?_)
   clear hlt hif
   go_simp
   exact hK _ _ ⟨zaa U 8 _,rfl,(oz HJ).put 8 _ h0 (Below.refl _ _) (zbS (Below.refl _ _)) rfl zbT (fun h =>absurd h (by decide))⟩
  ·refine wpOp_step rfl (fun K hK =>?_)
   clear hlt hif
   have d8:U 8=.pointer (some ⟨W.heap.size,7,none⟩):=(oz HJ).val 8 (zab hi 8 (by kernel_rfl))
   have q0:=(oz HF w (oz HJ).bel).bx.cell 7
   go_simp
   exact hK _ _ ⟨zaa U 9 _,(by rw [zac d8];rfl),(oz HJ).put 9 _ h0 (Below.refl _ _) (zbS (Below.refl _ _)) rfl zbT (fun h =>absurd h (by decide))⟩
  ·refine wpOp_step rfl (fun K hK =>?_)
   clear hlt hif
   have d9:U 9=.slice a7 T.al.length c7:=(oz HJ).val 9 (zab hi 9 (by kernel_rfl))
   go_simp
   refine (zdV a7 c7 T.al (oz HO).ok.n7 (oz HO).r7 w (zei (oz HF w (oz HJ).bel).ti.r7 (Nat.le_refl _))).mono ?_
   rintro e w' ⟨B,rfl,hs,hb⟩
   exact hK _ _ ⟨zaa U 10 _,(by rw [zac d9];rfl),(oz HJ).put 10 _ h0 hb (zbS hb) ⟨B,rfl,hs⟩ zbT (fun h =>absurd h (by decide))⟩
  ·refine wpOp_step rfl (fun K hK =>?_)
   clear hlt hif
   go_simp
   exact hK _ _ ⟨zaa U 11 _,rfl,(oz HJ).put 11 _ h0 ((Below.refl _ w).alloc (Nat.le_refl _) _) (zbS ((Below.refl _ w).alloc (Nat.le_refl _) _)) ⟨_,rfl,(oz HJ).sz,fun kt R =>ziD w kt R⟩ zbT (fun _ b hq =>Nat.le_of_eq (Option.some.inj hq))⟩
  ·refine wpOp_step rfl (fun K hK =>?_)
   clear hlt hif
   go_simp
   exact hK _ _ ⟨zaa U 12 _,rfl,(oz HJ).put 12 _ h0 ((Below.refl _ w).alloc (Nat.le_refl _) _) (zbS ((Below.refl _ w).alloc (Nat.le_refl _) _)) ⟨_,rfl,(oz HJ).sz,fun kt R =>ziD w kt R⟩ zbT (fun _ b hq =>Nat.le_of_eq (Option.some.inj hq))⟩
  ·refine wpOp_step rfl (fun K hK =>?_)
   clear hlt hif
   go_simp
   exact hK _ _ ⟨zaa U 13 _,rfl,(oz HJ).put 13 _ h0 ((Below.refl _ w).alloc (Nat.le_refl _) _) (zbS ((Below.refl _ w).alloc (Nat.le_refl _) _)) ⟨_,rfl,(oz HJ).sz,fun kt R =>ziD w kt R⟩ zbT (fun _ b hq =>Nat.le_of_eq (Option.some.inj hq))⟩
  ·refine wpOp_step rfl (fun K hK =>?_)
   clear hlt hif
   go_simp
   exact hK _ _ ⟨zaa U 14 _,rfl,(oz HJ).put 14 _ h0 (Below.refl _ _) (zbS (Below.refl _ _)) rfl zbT (fun h =>absurd h (by decide))⟩
  ·refine wpOp_step rfl (fun K hK =>?_)
   clear hlt hif
   have d14:U 14=.pointer (some ⟨W.heap.size,4,none⟩):=(oz HJ).val 14 (zab hi 14 (by kernel_rfl))
   have q0:=(oz HF w (oz HJ).bel).bx.cell 4
   go_simp
   exact hK _ _ ⟨zaa U 15 _,(by rw [zac d14];rfl),(oz HJ).put 15 _ h0 (Below.refl _ _) (zbS (Below.refl _ _)) rfl zbT (fun h =>absurd h (by decide))⟩
  ·refine wpOp_step rfl (fun K hK =>?_)
   clear hlt hif
   have d15:U 15=.slice a4 T.fo.length c4:=(oz HJ).val 15 (zab hi 15 (by kernel_rfl))
   go_simp
   refine (zig T.fo (oz HO).ok.n4 (oz HO).z4 a4 c4 w (oz HF w (oz HJ).bel).ti.r4).mono ?_
   rintro e w' ⟨M,n,rfl,hM,hn,hf,hb⟩
   exact hK _ _ ⟨zaa U 16 _,(by rw [zac d15];rfl),(oz HJ).put 16 _ h0 hb (zbS hb) ⟨M,n,rfl,Nat.le_trans (oz HJ).sz hM,hf⟩ zbT (fun _ b hq =>by have:=Option.some.inj hq;omega)⟩
  ·refine wpOp_step rfl (fun K hK =>?_)
   clear hlt hif
   go_simp
   exact hK _ _ ⟨zaa U 17 _,rfl,(oz HJ).put 17 _ h0 (Below.refl _ _) (zbS (Below.refl _ _)) rfl zbT (fun h =>absurd h (by decide))⟩
  ·refine wpOp_step rfl (fun K hK =>?_)
   clear hlt hif
   have d17:U 17=.pointer (some ⟨W.heap.size,5,none⟩):=(oz HJ).val 17 (zab hi 17 (by kernel_rfl))
   have q0:=(oz HF w (oz HJ).bel).bx.cell 5
   go_simp
   exact hK _ _ ⟨zaa U 18 _,(by rw [zac d17];rfl),(oz HJ).put 18 _ h0 (Below.refl _ _) (zbS (Below.refl _ _)) rfl zbT (fun h =>absurd h (by decide))⟩
  ·refine wpOp_step rfl (fun K hK =>?_)
   clear hlt hif
   have d18:U 18=.slice a5 T.lk.length c5:=(oz HJ).val 18 (zab hi 18 (by kernel_rfl))
   go_simp
   refine (zig T.lk (oz HO).ok.n5 (oz HO).z5 a5 c5 w (oz HF w (oz HJ).bel).ti.r5).mono ?_
   rintro e w' ⟨M,n,rfl,hM,hn,hf,hb⟩
   exact hK _ _ ⟨zaa U 19 _,(by rw [zac d18];rfl),(oz HJ).put 19 _ h0 hb (zbS hb) ⟨M,n,rfl,Nat.le_trans (oz HJ).sz hM,hf⟩ zbT (fun _ b hq =>by have:=Option.some.inj hq;omega)⟩
  ·refine wpOp_step rfl (fun K hK =>?_)
   clear hlt hif
   have h1:=(oz HJ).val 1 (zab hi 1 (by kernel_rfl))
   obtain ⟨t0,us2,t1,t2,t3,t4,t5,t6,t7,d1,hl1,hL1⟩:=h1
   have HT1:=kz (show TabAt w wz.drew.heap.size T (.agg #[t0,t1,t2,t3,t4,t5,t6,t7]) from ⟨t0,us2,t1,t2,t3,t4,t5,t6,t7,rfl,hl1,hL1⟩)
   clear hl1 hL1
   obtain ⟨B4,d4,h4⟩:=(oz HJ).val 4 (zab hi 4 (by kernel_rfl))
   obtain ⟨B7,d7,h7⟩:=(oz HJ).val 7 (zab hi 7 (by kernel_rfl))
   obtain ⟨B10,d10,h10⟩:=(oz HJ).val 10 (zab hi 10 (by kernel_rfl))
   obtain ⟨M11,d11,l11,h11⟩:=(oz HJ).val 11 (zab hi 11 (by kernel_rfl))
   obtain ⟨M12,d12,l12,h12⟩:=(oz HJ).val 12 (zab hi 12 (by kernel_rfl))
   obtain ⟨M13,d13,l13,h13⟩:=(oz HJ).val 13 (zab hi 13 (by kernel_rfl))
   obtain ⟨M16,n16,d16,l16,h16⟩:=(oz HJ).val 16 (zab hi 16 (by kernel_rfl))
   obtain ⟨M19,n19,d19,l19,h19⟩:=(oz HJ).val 19 (zab hi 19 (by kernel_rfl))
   have n01:M11≠M12:=zhS ((oz HJ).ap 11 12 rfl rfl (by decide) (zab hi 11 (by kernel_rfl)) (zab hi 12 (by kernel_rfl))) d11 d12
   have n02:M11≠M13:=zhS ((oz HJ).ap 11 13 rfl rfl (by decide) (zab hi 11 (by kernel_rfl)) (zab hi 13 (by kernel_rfl))) d11 d13
   have n03:M11≠M16:=zhS ((oz HJ).ap 11 16 rfl rfl (by decide) (zab hi 11 (by kernel_rfl)) (zab hi 16 (by kernel_rfl))) d11 d16
   have n04:M11≠M19:=zhS ((oz HJ).ap 11 19 rfl rfl (by decide) (zab hi 11 (by kernel_rfl)) (zab hi 19 (by kernel_rfl))) d11 d19
   have n12:M12≠M13:=zhS ((oz HJ).ap 12 13 rfl rfl (by decide) (zab hi 12 (by kernel_rfl)) (zab hi 13 (by kernel_rfl))) d12 d13
   have n13:M12≠M16:=zhS ((oz HJ).ap 12 16 rfl rfl (by decide) (zab hi 12 (by kernel_rfl)) (zab hi 16 (by kernel_rfl))) d12 d16
   have n14:M12≠M19:=zhS ((oz HJ).ap 12 19 rfl rfl (by decide) (zab hi 12 (by kernel_rfl)) (zab hi 19 (by kernel_rfl))) d12 d19
   have n23:M13≠M16:=zhS ((oz HJ).ap 13 16 rfl rfl (by decide) (zab hi 13 (by kernel_rfl)) (zab hi 16 (by kernel_rfl))) d13 d16
   have n24:M13≠M19:=zhS ((oz HJ).ap 13 19 rfl rfl (by decide) (zab hi 13 (by kernel_rfl)) (zab hi 19 (by kernel_rfl))) d13 d19
   have n34:M16≠M19:=zhS ((oz HJ).ap 16 19 rfl rfl (by decide) (zab hi 16 (by kernel_rfl)) (zab hi 19 (by kernel_rfl))) d16 d19
   have HK:Hz (BkC w wz.drew.heap.size T t0 t1 t2 t3 t4 t5 t6 t7 B4 B7 B10 M11 M12 M13 M16 n16 M19 n19):=kz ⟨oz HT1,h4,h7,h10,h11,h12,h13,h16,h19,⟨l11,l12,l13,l16,l19⟩,n01,n02,n03,n04,n12,n13,n14,n23,n24,n34⟩
   clear HT1 h4 h7 h10 h11 h12 h13 h16 h19 n01 n02 n03 n04 n12 n13 n14 n23 n24 n34
   go_simp
   exact hK _ _ ⟨zaa U 20 _,(by rw [zac d1,zac d4,zac d7,zac d10,zac d11,zac d12,zac d13,zac d16,zac d19];rfl),(oz HJ).put 20 _ h0 (Below.refl _ _) (zbS (Below.refl _ _)) ⟨t0,t1,t2,t3,t4,t5,t6,t7,B4,B7,B10,M11,M12,M13,M16,n16,M19,n19,rfl,oz HK⟩ zbT (fun h =>absurd h (by decide))⟩
  ·refine wpOp_step rfl (fun K hK =>?_)
   clear hlt hif
   obtain ⟨t0,t1,t2,t3,t4,t5,t6,t7,Bc,Bd,Ba,M5,M6,M7,MF,nF,ML,nL,d20,hK20⟩:=(oz HJ).val 20 (zab hi 20 (by kernel_rfl))
   have HK:=kz hK20
   clear hK20
   go_simp
   exact hK _ _ ⟨zaa U 21 _,(by rw [zac d20];rfl),(oz HJ).put 21 _ h0 ((Below.refl _ w).alloc (Nat.le_refl _) _) (zbS ((Below.refl _ w).alloc (Nat.le_refl _) _)) ⟨_,t0,t1,t2,t3,t4,t5,t6,t7,Bc,Bd,Ba,M5,M6,M7,MF,nF,ML,nL,rfl,(oz HJ).sz,Blk.new w _ _,(oz HK).below ((Below.refl _ w).alloc (Nat.le_refl _) _)⟩ zbT (fun h =>absurd h (by decide))⟩
 ·rintro l a w ⟨V,rfl,hJ⟩ hall
  obtain ⟨B,t0,t1,t2,t3,t4,t5,t6,t7,Bc,Bd,Ba,M5,M6,M7,MF,nF,ML,nL,d21,hloB,hBk,hK⟩:=hJ.val 21 (hall 21 (by decide) (by decide))
  have hBW:Below W.heap.size W w:=(oz HB0).trans (hJ.bel.mono (by have:=oz HS1;omega))
  have hF1:=oz HF w hJ.bel
  have HP:=kz hF1
  have e0:=hF1.bx.cell 0
  have hWB:W.heap.size+1≤B:=by have:=oz HS1;omega
  have H0:Hz (ScSt w w B T t0 t1 t2 t3 t4 t5 t6 t7 Bc Bd Ba M5 M6 M7 MF ML 0 (.slice none 0 0) []):=kz ⟨hBk,rfl,World.ownsRow_nil _ _ _ _,fun j s b _ hb =>by simp at hb,KeptX.refl _ _⟩
  have H1:=kz (And.intro hK (And.intro hBW (And.intro hWB hBk.lt)))
  have HB1:=kz hBk
  have HW:Hz (W.heap.size+1≤wz.drew.heap.size):=kz (Nat.le_of_eq (oz HS1).symm)
  have HLo:Hz (wz.drew.heap.size≤w.heap.size):=kz hJ.bel.size
  clear hJ hall hF1 hBk hK hBW hloB hWB
  refine wpOp_step rfl (fun K hK =>?_)
  go_simp
  refine hK _ _ ?_
  clear hK HF HB0 HS1
  go_step
  go_step
  refine wp_seq_k (fun K2 hK2 =>?_)
  have HK2:=kz hK2
  clear hK2
  go_wp2_with fail
  go_loopw [5,36] (fun _ s36 wr => ∃ (k:Nat) (sv:Value) (bs:List Nat),k≤T.sc.length∧s36=.int .i64 k∧Hz (ScSt w wr B T t0 t1 t2 t3 t4 t5 t6 t7 Bc Bd Ba M5 M6 M7 MF ML k sv bs)) (fun _ s36 _ =>T.sc.length - (intOf s36).toNat)
  case atStart =>exact ⟨0,_,_,Nat.zero_le _,rfl,H0⟩
  case round =>
   obtain ⟨k,sv,bs,hk,rfl,HS⟩:=hrel
   clear H0
   by_cases hkn:k < T.sc.length
   ·obtain ⟨s,hs⟩:∃ s,T.sc[k]?=some s:=⟨_,List.getElem?_eq_getElem hkn⟩
    obtain ⟨u,hu⟩:∃ u,us[k]?=some u:=⟨_,List.getElem?_eq_getElem (by have:=(oz HT).lu;omega)⟩
    obtain ⟨b,d,rfl,hrc⟩:=(oz HT).rs k s u hs hu
    have hlen:0 < (zbB T.sc us).length:=by have:=(List.getElem?_eq_some_iff.1 (zfe T.sc us (oz HT).lu k s hs)).1;omega
    obtain ⟨g,q,rfl,hg,hc⟩:=(oz HT).r0 hlen
    have n0:=zfe T.sc us (oz HT).lu k s hs
    have n1:(zbB T.sc us)[k*2+1]?=some (.slice b s.2.length d):=by rw [show k*2+1=2*k+1 by omega,zdG _ _ (oz HT).lu];exact hu
    have hgw:g < w.heap.size:=Nat.lt_of_lt_of_le hg (oz H1).2.1.size
    have hgB:¬ g=B:=by have:=(oz H1).2.2.1;omega
    have kc0:wr.cell? ⟨g,q+k*2,none⟩=some (.string s.1):=((oz HS).kp.cell (p:=⟨g,q+k*2,none⟩) hgw hgB).trans (((oz H1).2.1.cell (p:=⟨g,q+k*2,none⟩) hg).trans (hc _ _ n0))
    have kc1:wr.cell? ⟨g,q+k*2+1,none⟩=some (.slice b s.2.length d):=((oz HS).kp.cell (p:=⟨g,q+k*2+1,none⟩) hgw hgB).trans (((oz H1).2.1.cell (p:=⟨g,q+k*2+1,none⟩) hg).trans (hc _ _ n1))
    have hrw:RowC wr w.heap.size b (zaW s.2):=fun h0 =>by
     obtain ⟨g2,o2,e2,hg2,hc2⟩:=hrc h0
     have h3:g2 < w.heap.size:=Nat.lt_of_lt_of_le hg2 (oz H1).2.1.size
     exact ⟨g2,o2,e2,h3,fun j v hv =>((oz HS).kp.cell (p:=⟨g2,o2+j,none⟩) h3 (show ¬ g2=B by have:=(oz H1).2.2.1;omega)).trans (((oz H1).2.1.cell (p:=⟨g2,o2+j,none⟩) hg2).trans (hc2 j v hv))⟩
    have hk1:(k:Int) < (T.sc.length:Int):=by omega
    have HKN:Hz (k+1≤T.sc.length):=kz hkn
    have hkn0:k≤T.sc.length:=hk
    have hk2:((k:Nat):Int).toNat=k:=by omega
    have HX:=kz (And.intro hs (And.intro ((oz HO).rs s (List.mem_of_getElem? hs)) (And.intro ((oz HO).ok.z0 s (List.mem_of_getElem? hs)).2 hrw)))
    obtain ⟨s1,s2⟩:=s
    dsimp only at kc0 kc1 HX
    clear hs hu hrc hc n0 n1 hgw hgB hrw hlen hg
    have HF:Hz (∀ w2,KeptX (fun x =>sv.ownBlock=some x) (wr.alloc (.cells #[.string s1,.slice b s2.length d] 109)).drew w2→Blk w2 wr.heap.size #[.string s1,.slice b s2.length d] 109∧Blk w2 B (zq8 t0 t1 t2 t3 t4 t5 t6 t7 sv Bc Bd Ba M5 M6 M7 MF ML) 107∧RowC w2 w.heap.size b (zaW s2)):=kz (fun w2 h2 =>by
     have hb:Below wr.heap.size wr (wr.alloc (.cells #[.string s1,.slice b s2.length d] 109)).drew:=((Below.refl _ wr).alloc (Nat.le_refl _) _).trans ⟨rfl,rfl,rfl,Nat.le_refl _,fun _ _ =>rfl⟩
     have hlow:∀ x,sv.ownBlock=some x→w.heap.size≤x∧x < wr.heap.size:=fun x e =>⟨zbH (oz HS).row x e,zb4 (oz HS).row x e⟩
     refine ⟨h2.blk (Blk.new wr _ _) (fun e =>by have:=hlow _ e;omega),h2.blk ((oz HS).bx.below hb (oz HS).bx.lt) (fun e =>by have:=hlow _ e;have:=(oz H1).2.2.2;omega),fun h0 =>?_⟩
     obtain ⟨g2,o2,e2,hg2,hc2⟩:=(oz HX).2.2.2 h0
     have h3:g2 < wr.heap.size:=Nat.lt_of_lt_of_le hg2 (oz HS).kp.size
     exact ⟨g2,o2,e2,hg2,fun j v hv =>(h2.cell (p:=⟨g2,o2+j,none⟩) (Nat.lt_of_lt_of_le h3 hb.size) (show ¬ sv.ownBlock=some g2 from fun e =>by have:=hlow g2 e;omega)).trans ((hb.cell (p:=⟨g2,o2+j,none⟩) h3).trans (hc2 j v hv))⟩)
    have HZ:Hz (Below wr.heap.size wr (wr.alloc (.cells #[.string s1,.slice b s2.length d] 109)).drew∧w.heap.size≤(wr.alloc (.cells #[.string s1,.slice b s2.length d] 109)).drew.heap.size∧(∀ x,sv.ownBlock=some x→x < (wr.alloc (.cells #[.string s1,.slice b s2.length d] 109)).drew.heap.size)∧B < w.heap.size):=kz (by
     have hb:Below wr.heap.size wr (wr.alloc (.cells #[.string s1,.slice b s2.length d] 109)).drew:=((Below.refl _ wr).alloc (Nat.le_refl _) _).trans ⟨rfl,rfl,rfl,Nat.le_refl _,fun _ _ =>rfl⟩
     exact ⟨hb,Nat.le_trans (oz HS).kp.size hb.size,fun x e =>Nat.lt_of_lt_of_le (zb4 (oz HS).row x e) hb.size,(oz H1).2.2.2⟩)
    go_wp2_with fail
    generalize (wr.alloc (.cells #[.string s1,.slice b s2.length d] 109))=wb at *
    refine zpb hmx HS HF HX HZ (oz HO).ok.n0 hkn0 ?_
    intro U wn sv2 bs2 HN
    have hkb:k+1≤1000000:=by have:=(oz HO).ok.n0;have:=oz HKN;omega
    go_wp2_with fail
    exact ⟨⟨k+1,_,_,oz HKN,by go_num,HN⟩,by have:=oz HKN;simp [intOf];omega⟩
   ·have hk1:¬ (k:Int) < (T.sc.length:Int):=by omega
    obtain rfl:k=T.sc.length:=by omega
    have hPB:¬ W.heap.size=B:=by have:=(oz H1).2.2.1;omega
    have HE:Hz (∀ g j,g < W.heap.size→wr.cell? ⟨g,j,none⟩=W.cell? ⟨g,j,none⟩):=kz (fun g j hg =>((oz HS).kp.cell (p:=⟨g,j,none⟩) (Nat.lt_of_lt_of_le hg (oz H1).2.1.size) (show ¬ g=B by have:=(oz H1).2.2.1;omega)).trans ((oz H1).2.1.cell (p:=⟨g,j,none⟩) hg))
    have HPb:=kz ((oz HS).kp.blk (oz HP).bx hPB)
    clear hPB
    go_wp2_with fail
    have l5:W.heap.size+1≤M5:=by have:=(oz H1).1.lows.1;have:=oz HW;omega
    have l6:W.heap.size+1≤M6:=by have:=(oz H1).1.lows.2.1;have:=oz HW;omega
    have l7:W.heap.size+1≤M7:=by have:=(oz H1).1.lows.2.2.1;have:=oz HW;omega
    have lB:=(oz H1).2.2.1
    have m5:=zcO ((oz H1).1.m5 21 (plainElem Tryz.prog 3)) (oz HB1)
    have m6:=zcO ((oz H1).1.m6 21 zeD) (oz HB1)
    have m7:=zcO ((oz H1).1.m7 134 (plainElem Tryz.prog 21)) (oz HB1)
    have hsz:W.heap.size≤wr.heap.size:=Nat.le_trans (oz H1).2.1.size (oz HS).kp.size
    refine oz HK2 _ _ (zmE T (oz HO).ok.n2 (fun x hx =>⟨(oz HO).z2 x hx,(oz HO).ok.z2 x hx⟩) (lo:=W.heap.size) (M5:=M5) hmx ((oz HPb).cell 2) (kz ⟨zmN (oz HT).r2 (oz HE),hsz,by omega,(oz HS).bx.lt,fun e =>m5 e.symm,(oz HS).bx.cell 12⟩) (kz ⟨⟨_,(oz HS).kp.mp ((oz H1).1.m5 _ _) m5,fun r _ =>.inl ⟨fun x hx =>by simp at hx,rfl⟩⟩,KeptX.refl _ _⟩) ?_)
    intro v7 v53 v54 v55 v56 v57 v58 v59 v60 v61 v62 v63 v64 v65 v66 v67 v68 wn HN
    have hk2:=(oz HN).2
    have hc2:∀ g j,g < wr.heap.size→g≠M5→wn.cell? ⟨g,j,none⟩=wr.cell? ⟨g,j,none⟩:=fun g j hg hne =>hk2.cell (p:=⟨g,j,none⟩) hg hne
    refine zmD T (oz HO).ok.n3 (oz HO).z3 (lo:=W.heap.size) (M6:=M6) (M7:=M7) hmx ((hc2 _ 3 (oz HPb).lt (by omega)).trans ((oz HPb).cell 3)) (kz ⟨zmN (oz HT).r3 (fun g j hg =>(hc2 g j (by omega) (by omega)).trans (oz HE g j hg)),Nat.le_trans hsz hk2.size,by omega,by omega,(oz H1).1.n67,Nat.lt_of_lt_of_le (oz HS).bx.lt hk2.size,fun e =>m6 e.symm,fun e =>m7 e.symm,(hc2 B 13 (oz HS).bx.lt (fun e =>m5 e.symm)).trans ((oz HS).bx.cell 13),(hc2 B 14 (oz HS).bx.lt (fun e =>m5 e.symm)).trans ((oz HS).bx.cell 14)⟩) (kz ⟨⟨_,hk2.mp ((oz HS).kp.mp ((oz H1).1.m6 _ _) m6) (fun e =>(oz H1).1.n56 e.symm),fun r _ =>.inl ⟨fun x hx =>by simp at hx,rfl⟩⟩,⟨_,hk2.mp ((oz HS).kp.mp ((oz H1).1.m7 _ _) m7) (fun e =>(oz H1).1.n57 e.symm),fun a b k _ =>.inl ⟨fun x hx =>by simp at hx,rfl⟩⟩,KeptX.refl _ _⟩) ?_
    intro af wq h2 hd HQ
    refine bodyPost_ret (v := .pointer (some ⟨B,0,none⟩)) (by rw [← h2];exact results_tmp rfl _ _ _) hd ?_
    refine ⟨B,rfl,by omega,zpP (oz H1).1 (oz HB1) (oz HLo) (oz HS) (oz HN).1 hk2 (oz HQ).1 (oz HQ).2.1 (oz HQ).2.2, ?_⟩
    exact zev (zev (zev (oz H1).2.1 (oz HS).kp (fun g e =>by subst e;omega) (Nat.le_refl _)) hk2 (fun g e =>by subst e;omega) (Nat.le_refl _)) (oz HQ).2.2 (fun g e =>by rcases e with e | e <;> (subst e;omega)) (Nat.le_refl _)
theorem zqv {fn:Func} {u p:Tmp} {tmps:Array Value} {w:World} {R:Nat} {cs:Array Value} (h:fn.results=#[.tmp u,.cell p 76]) (hp:tmps.getD p undef=.pointer (some ⟨R,0,none⟩)) (hb:Blk w R cs 76) (hc:cs.size=3):(results fn tmps).run Tryz.prog w=.ok (.tuple #[tmps.getD u undef,.agg cs]) w:=by
 have hp':tmps[p]?.getD undef=.pointer (some ⟨R,0,none⟩):=by simpa using hp
 have hl:=run_loadVar_row (P:=Tryz.prog) w R _ 76 cs _ _ hb Tryz.underlying76 rfl (by rw [hc];kernel_rfl)
 simp only [results,h]
 simp [Result.andThen,hp',asAddr,hl]
theorem zoP (T:TV) (us:List Value) (l:Ln) (hl:l ∈ zi5 T us):l.E≠76:=by
 have key:l.E=109∨l.E=113∨l.E=115∨l.E=117∨l.E=119:=by
  unfold zi5 at hl
  simp only [List.mem_append,List.mem_cons,List.mem_map,List.not_mem_nil,or_false] at hl
  rcases hl with ((((((((h | ⟨_,_,h⟩) | h) | h) | h) | h) | h) | h) | h)
  ·rw [h];exact .inl rfl
  ·rw [← h];exact .inr (.inl rfl)
  ·rw [h];exact .inr (.inl rfl)
  ·rw [h];exact .inr (.inr (.inl rfl))
  ·rw [h];exact .inr (.inr (.inr (.inl rfl)))
  ·rw [h];exact .inr (.inr (.inr (.inr rfl)))
  ·rw [h];exact .inr (.inr (.inr (.inr rfl)))
  ·rw [h];exact .inr (.inl rfl)
  ·rw [h];exact .inr (.inl rfl)
 generalize l.E=x at key
 rcases key with rfl | rfl | rfl | rfl | rfl
 all_goals decide
theorem zhC {lo R:Nat} {W w:World} (h:Below lo W w) (hl:lo≤R) (hs:lo≤w.heap.size) (x y z:Value):Below lo W (((w.drew.setCell ⟨R,0,none⟩ x).setCell ⟨R,1,none⟩ y).setCell ⟨R,2,none⟩ z):=za0 (w:=w.drew) (h.trans (show Below lo w w.drew from ⟨rfl,rfl,rfl,Nat.le_refl _,fun _ _ =>rfl⟩)) hl hs x y z
theorem zr3 {w:World} {R:Nat} {cs:Array Value} (b:Blk w R cs 76) {g:Nat} {cur:Array Value} {t:TypeId} (hb:Blk w g cur t) (ht:t≠76):¬ g=R:=by
 rintro rfl
 unfold Blk at b hb
 rw [b] at hb
 injection hb with e
 injection e with _ e
 exact ht e.symm
theorem zl1 {w w':World} {B R:Nat} {T:TV} {cs:Array Value} (h:BookAt w B T) (b:Blk w R cs 76) (k:KeptX (fun g =>g=R) w w') (hints:∀ (j:Nat) (y:Int),cs[j]?≠some (.int .i32 y)):BookAt w' B T:=by
 obtain ⟨lo,t0,t1,t2,t3,t4,t5,t6,t7,sv,bs,Bc,Bd,Ba,M5,n5,M6,n6,M7,n7,MF,nF,ML,nL,h⟩:=h
 have row:∀ {lo E sz n:Nat} {v:Value} {xs:List Value},w.ownsRow lo E sz v n xs→E≠76→w'.ownsRow lo E sz v n xs:=fun {lo E sz n v xs} h hE =>by
  rcases h.2 with ⟨e,h0⟩ | ⟨g,cap,cur,e,hb,hg,r⟩
  ·exact ⟨h.1,.inl ⟨e,h0⟩⟩
  ·exact ⟨h.1,.inr ⟨g,cap,cur,e,hb,k.blk hg (zr3 b hg hE),r⟩⟩
 have setv:∀ l C,SetV w l C→SetV w' l C:=fun l C ⟨zs,lo0,h1,h2⟩ =>by
  obtain ⟨va,vb,f1,f2,f3⟩:=h1.form
  exact ⟨zs,lo0,⟨⟨va,vb,k.blk f1 (zr3 b f1 (by decide)),row f2 (by decide),row f3 (by decide)⟩,h1.lo⟩,h2⟩
 have mpx:∀ {kt:TypeId} {Rd:Value→Option (DataW Unit × List MemPlace)} {M n:Nat} {G:Lit→Option (DataW Unit)},MpAt w kt Rd M n G→MpAt w' kt Rd M n G:=fun {kt Rd M n G} hm =>k.mp hm (zcO hm b)
 have foa:∀ M n l,FoAt w M n l→FoAt w' M n l:=fun M n l hf =>by
  obtain ⟨G,h1,h2⟩:=hf.mp
  refine ⟨G,mpx h1,fun r hr =>?_⟩
  rcases h2 r hr with h3 | ⟨x,hx,e,g,c,h4,h5,h6⟩
  ·exact .inl h3
  ·refine .inr ⟨x,hx,e,g,c,h4,h5,Nat.lt_of_lt_of_le h6.1 k.size,fun j y hy =>(k.cell (p:=⟨g,j,none⟩) h6.1 (fun e =>?_)).trans (h6.2 j y hy)⟩
   have e:g=R:=e
   subst e
   have:=h6.2 j y hy
   rw [b.cell j] at this
   exact hints _ _ this
 exact ⟨lo, t0, t1, t2, t3, t4, t5, t6, t7, sv, bs, Bc, Bd, Ba, M5, n5, M6, n6, M7, n7, MF, nF, ML, nL,
   { bx := k.blk h.bx (zr3 b h.bx (by decide))
     tb:=by
       obtain ⟨v0,us,v1,v2,v3,v4,v5,v6,v7,e,hl,h1⟩:=h.tb
       exact ⟨v0,us,v1,v2,v3,v4,v5,v6,v7,e,hl,h1.ll,fun i v l hv hl =>row (h1.own i v l hv hl) (zoP T us l (List.mem_of_getElem? hl)),h1.apart⟩
     len:=h.len
     row:=row h.row (by decide)
     sets:=fun j s b h1 h2 =>setv _ _ (h.sets j s b h1 h2)
     co:=setv _ _ h.co
     dr:=setv _ _ h.dr
     al:=setv _ _ h.al
     cl:=let ⟨G,g1,g2⟩:=h.cl.mp; ⟨G,mpx g1,g2⟩
     pa:=let ⟨G,g1,g2⟩:=h.pa.mp; ⟨G,mpx g1,g2⟩
     jo:=let ⟨G,g1,g2⟩:=h.jo.mp; ⟨G,mpx g1,g2⟩
     fo:=foa _ _ _ h.fo
     lk:=foa _ _ _ h.lk }⟩
theorem zkw (w:World) (R:Nat) (x y z:Value):KeptX (fun g =>g=R) w (((w.setCell ⟨R,0,none⟩ x).setCell ⟨R,1,none⟩ y).setCell ⟨R,2,none⟩ z):=((zd6 w R 0 x).trans (zd6 _ R 1 y)).trans (zd6 _ R 2 z)
theorem znW {w:World} {B R:Nat} {T:TV} (h:BookAt w B T) (b:Blk w R #[.int .i64 0,.int .i64 0,.int .i64 0] 76) (x y z:Value):BookAt (((w.setCell ⟨R,0,none⟩ x).setCell ⟨R,1,none⟩ y).setCell ⟨R,2,none⟩ z) B T :=
 zl1 h b (zkw w R x y z) (fun j y e =>by
  rcases j with _ | _ | _ | j
  ·injection e with e;cases e
  ·injection e with e;cases e
  ·injection e with e;cases e
  ·simp at e)
theorem zg5 (s:ByteArray):∀ f i,s.size≤i+f→s.size≤i+4*(zak s f i).length
 | 0,i,h =>by simp only [zak,List.length_nil];omega
 | f+1,i,h =>by
  by_cases hi:i < s.size
  ·rw [zar s f i hi,List.length_cons]
   have h1:=zcx s i
   have h2:=zir s i
   have:=zg5 s f (i+wd s i) (by omega)
   omega
  ·rw [zay s _ i hi];simp;omega
theorem zgN {s:ByteArray} (h:toB s=true):s.size≤1048576:=by
 have h1:=(zf7 h).2.2
 have h2:=zg5 s s.size 0 (by omega)
 unfold zah zai at h1
 rw [List.length_map] at h1
 omega
theorem zlJ {s:ByteArray} (h:zdL s=true):s.size≤1048576:=by
 unfold zdL at h
 rw [Bool.and_eq_true,decide_eq_true_eq] at h
 omega
theorem zq7 {T:TV} (hO:zgL T) (hR:zam T):zsp T :=
 ⟨hO,fun x hx =>zlJ (hR.f0 x hx).1,fun x hx =>⟨zgN (hR.f4 x hx).2,zcK (hR.f4 x hx).1⟩,fun x hx =>⟨zgN (hR.f5 x hx).2,zcK (hR.f5 x hx).1⟩,fun x hx =>zcK (hR.f2 x hx).1,fun x hx =>⟨zcK (hR.f3 x hx).1,zcK (hR.f3 x hx).2.1,zcK (hR.f3 x hx).2.2⟩,hR.f1,hR.f6,hR.f7,fun x hx =>(hR.f0 x hx).2⟩
theorem zpJ (T:TV):zdI T=if (orW [zbU T,zbl T,zbd T]).1=0 then orW (wrL T) else orW [zbU T,zbl T,zbd T]:=za5 [zbU T,zbl T,zbd T] (wrL T)
structure zsD (W w:World) (T:TV) (p:Option Addr):Prop where
 bl:Below W.heap.size W w
 ok:(zdI T).1=0→zam T∧∃ B,p=some ⟨B,0,none⟩∧W.heap.size≤B∧BookAt w B T
 no:(zdI T).1≠0→p=none
structure NwS (W w:World) (T:TV) (a0 a1 a2 a3 a4 a5 a6 a7:Option Addr) (c0 c1 c2 c3 c4 c5 c6 c7:Nat) (us:List Value):Prop where
 bl:Below W.heap.size W w
 bx:Blk w W.heap.size #[.slice a0 T.sc.length c0,.slice a1 T.co.length c1,.slice a2 T.ma.length c2,.slice a3 T.pr.length c3,.slice a4 T.fo.length c4,.slice a5 T.lk.length c5,.slice a6 T.dr.length c6,.slice a7 T.al.length c7] 28
 rs:Blk w (W.heap.size+1) #[.int .i64 0,.int .i64 0,.int .i64 0] 76
 ti:TabIn w T a0 a1 a2 a3 a4 a5 a6 a7 us
theorem NwS.below {W w w':World} {T:TV} {a0 a1 a2 a3 a4 a5 a6 a7:Option Addr} {c0 c1 c2 c3 c4 c5 c6 c7:Nat} {us:List Value} (h:NwS W w T a0 a1 a2 a3 a4 a5 a6 a7 c0 c1 c2 c3 c4 c5 c6 c7 us) (hb:Below w.heap.size w w'):NwS W w' T a0 a1 a2 a3 a4 a5 a6 a7 c0 c1 c2 c3 c4 c5 c6 c7 us:=⟨h.bl.trans (hb.mono h.bl.size),h.bx.below hb h.bx.lt,h.rs.below hb h.rs.lt,h.ti.lower hb⟩
set_option maxRecDepth 100000 in
set_option maxHeartbeats 8000000 in
theorem zpj (T:TV) (hOk:zgL T) (hI:zjU T) (a0 a1 a2 a3 a4 a5 a6 a7:Option Addr) (c0 c1 c2 c3 c4 c5 c6 c7:Nat) (us:List Value) (W:World) (hT:TabIn W T a0 a1 a2 a3 a4 a5 a6 a7 us) :
  Calls Tryz.prog 36 #[.agg #[.slice a0 T.sc.length c0,.slice a1 T.co.length c1,.slice a2 T.ma.length c2,.slice a3 T.pr.length c3,.slice a4 T.fo.length c4,.slice a5 T.lk.length c5,.slice a6 T.dr.length c6,.slice a7 T.al.length c7]] W fun e w' => ∃ p,e=.returned (.tuple #[.pointer p,wrV (zdI T)])∧zsD W w' T p:=by
 have hmx:Tryz.prog.follows .mixedOrders=true:=by kernel_rfl
 have hB0:Below W.heap.size W ((W.alloc (.cells #[.slice a0 T.sc.length c0,.slice a1 T.co.length c1,.slice a2 T.ma.length c2,.slice a3 T.pr.length c3,.slice a4 T.fo.length c4,.slice a5 T.lk.length c5,.slice a6 T.dr.length c6,.slice a7 T.al.length c7] 28)).alloc (.cells #[.int .i64 0,.int .i64 0,.int .i64 0] 76)):=((Below.refl _ W).alloc (Nat.le_refl _) _).alloc (by simp) _
 have bR:Blk ((W.alloc (.cells #[.slice a0 T.sc.length c0,.slice a1 T.co.length c1,.slice a2 T.ma.length c2,.slice a3 T.pr.length c3,.slice a4 T.fo.length c4,.slice a5 T.lk.length c5,.slice a6 T.dr.length c6,.slice a7 T.al.length c7] 28)).alloc (.cells #[.int .i64 0,.int .i64 0,.int .i64 0] 76)) (W.heap.size+1) #[.int .i64 0,.int .i64 0,.int .i64 0] 76:=by
  have h:=Blk.new (W.alloc (.cells #[.slice a0 T.sc.length c0,.slice a1 T.co.length c1,.slice a2 T.ma.length c2,.slice a3 T.pr.length c3,.slice a4 T.fo.length c4,.slice a5 T.lk.length c5,.slice a6 T.dr.length c6,.slice a7 T.al.length c7] 28)) #[.int .i64 0,.int .i64 0,.int .i64 0] 76
  rw [World.size_alloc] at h
  exact h
 have hS:NwS W ((W.alloc (.cells #[.slice a0 T.sc.length c0,.slice a1 T.co.length c1,.slice a2 T.ma.length c2,.slice a3 T.pr.length c3,.slice a4 T.fo.length c4,.slice a5 T.lk.length c5,.slice a6 T.dr.length c6,.slice a7 T.al.length c7] 28)).alloc (.cells #[.int .i64 0,.int .i64 0,.int .i64 0] 76)) T a0 a1 a2 a3 a4 a5 a6 a7 c0 c1 c2 c3 c4 c5 c6 c7 us:=⟨hB0,(Blk.new W _ _).alloc _,bR,hT.lower hB0⟩
 have HR:=kz (ziz T hOk hI a0 a1 a2 a3 a4 a5 a6 a7 c0 c1 c2 c3 c4 c5 c6 c7 us ((W.alloc (.cells #[.slice a0 T.sc.length c0,.slice a1 T.co.length c1,.slice a2 T.ma.length c2,.slice a3 T.pr.length c3,.slice a4 T.fo.length c4,.slice a5 T.lk.length c5,.slice a6 T.dr.length c6,.slice a7 T.al.length c7] 28)).alloc (.cells #[.int .i64 0,.int .i64 0,.int .i64 0] 76)) hS.ti)
 have HOk:=kz (And.intro hOk hI)
 have HCE:=kz (zpJ T)
 have HRO:=kz (zjf (T:=T))
 have HS:=kz hS
 have q0:=hS.bx.cell 0
 have q1:=hS.bx.cell 1
 have q2:=hS.bx.cell 2
 have q3:=hS.bx.cell 3
 have q4:=hS.bx.cell 4
 have q5:=hS.bx.cell 5
 have q6:=hS.bx.cell 6
 have q7:=hS.bx.cell 7
 clear hB0 bR hS hT hOk hI
 generalize orW [zbU T,zbl T,zbd T]=x at *
 obtain ⟨x0,x1,x2⟩:=x
 unfold wrV at HR
 dsimp only at HR HCE HRO
 by_cases hx:x0=0
 ·have hx1:=hx
  obtain ⟨y,hy⟩:∃ y,orW (wrL T)=y:=⟨_,rfl⟩
  have HC:Hz (zdI T=y):=kz (by rw [oz HCE,if_pos hx1,hy])
  have hR:=oz HRO hx1
  subst hx
  have HBo:=kz (fun w (ti:TabIn w T a0 a1 a2 a3 a4 a5 a6 a7 us) =>zl2 T (zq7 (oz HOk).1 hR) a0 a1 a2 a3 a4 a5 a6 a7 c0 c1 c2 c3 c4 c5 c6 c7 us w ti)
  have HWr:=kz (fun B w (h:BookAt w B T) =>zkH hR ⟨fun x hx =>zgN (hR.f4 x hx).2,fun x hx =>zgN (hR.f5 x hx).2⟩ B w h)
  rw [hy] at HWr
  have HRw:=kz hR
  clear hx1 hR HCE HRO hy
  obtain ⟨y0,y1,y2⟩:=y
  unfold wrV at HWr
  dsimp only at HWr
  rw [oz HC]
  unfold wrV
  dsimp only
  go_enter Tryz.func36,Tryz.ntmps36
  go_wp2_with fail
  refine (oz HR).mono ?_
  rintro e w1 ⟨rfl,hb⟩
  have HS1:=kz (((oz HS).below hb).below (al1 w1 (.cells #[.int .i64 0,.int .i64 x1,.int .i64 x2] 76)))
  clear hb HR HS q0 q1 q2 q3 q4 q5 q6 q7
  have q0:=(oz HS1).bx.cell 0
  have q1:=(oz HS1).bx.cell 1
  have q2:=(oz HS1).bx.cell 2
  have q3:=(oz HS1).bx.cell 3
  have q4:=(oz HS1).bx.cell 4
  have q5:=(oz HS1).bx.cell 5
  have q6:=(oz HS1).bx.cell 6
  have q7:=(oz HS1).bx.cell 7
  go_wp2_with fail
  refine (oz HBo _ (oz HS1).ti).mono ?_
  rintro e w2 ⟨B,rfl,hlB,hbk,hb⟩
  have HS2:=kz (And.intro ((oz HS1).below hb) (And.intro hbk (Nat.le_trans (oz HS1).bl.size hlB)))
  clear hb hbk hlB HS1 HBo q0 q1 q2 q3 q4 q5 q6 q7
  go_wp2_with fail
  refine (oz HWr B w2 (oz HS2).2.1).mono ?_
  rintro e w3 ⟨rfl,hb⟩
  have hn:=al1 w3 (.cells #[.int .i64 y0,.int .i64 y1,.int .i64 y2] 76)
  have HS3:=kz (And.intro (((oz HS2).1.below hb).below hn) (And.intro (((oz HS2).2.1.below hb).below hn) (oz HS2).2.2))
  have bY:=Blk.new w3 #[.int .i64 y0,.int .i64 y1,.int .i64 y2] 76
  have s0:=bY.cell 0
  have s1:=bY.cell 1
  have s2:=bY.cell 2
  have r0:=(oz HS3).1.rs.cell 0
  have r1:=(oz HS3).1.rs.cell 1
  have r2:=(oz HS3).1.rs.cell 2
  have f0:=(oz HS3).1.rs.frozen 0
  have f1:=(oz HS3).1.rs.frozen 1
  have f2:=(oz HS3).1.rs.frozen 2
  clear hb hn HWr HS2 bY
  by_cases hy0:y0=0
  ·have HY:Hz ((0,y1,y2)=((0:Int),(0:Int),(0:Int))):=kz (by
    subst hy0
    have:=zie T
    rw [oz HC] at this
    exact this rfl)
   subst hy0
   obtain ⟨_,hh⟩:=Prod.mk.inj (oz HY)
   obtain ⟨rfl,rfl⟩:=Prod.mk.inj hh
   clear hh HY
   go_wp2_with fail
   refine bodyPost_ret (v := .tuple #[.pointer (some ⟨B,0,none⟩),.agg #[.int .i64 0,.int .i64 0,.int .i64 0]]) (zqv Tryz.results36 rfl (zcw (oz HS3).1.rs _ _ _) rfl) rfl ⟨_,rfl, ?_⟩
   refine ⟨za0 (oz HS3).1.bl (by omega) (oz HS3).1.bl.size _ _ _,fun _ =>⟨oz HRw,B,rfl,(oz HS3).2.2,znW (oz HS3).2.1 (oz HS3).1.rs _ _ _⟩,fun q =>absurd (by rw [oz HC]) q⟩
  ·have n0:(y0 == 0)=false:=by simpa using hy0
   have n1:(y0 != 0)=true:=by simpa using hy0
   go_wp2_with fail
   go_region_with (fail)
   all_goals
    go_wp2_with fail
    refine bodyPost_ret (v := .tuple #[.pointer none,.agg #[.int .i64 y0,.int .i64 y1,.int .i64 y2]]) (zqv Tryz.results36 rfl (zcw (show Blk _ _ _ _ from (oz HS3).1.rs) _ _ _) rfl) rfl ⟨_,rfl, ?_⟩
    exact ⟨zhC (oz HS3).1.bl (by omega) (oz HS3).1.bl.size _ _ _,fun q =>absurd (by rw [oz HC] at q;exact q) hy0,fun _ =>rfl⟩
 ·have HC:Hz (zdI T=(x0,x1,x2)):=kz (by rw [oz HCE,if_neg hx])
  have n0:(x0 == 0)=false:=by simpa using hx
  have n1:(x0 != 0)=true:=by simpa using hx
  rw [oz HC]
  unfold wrV
  dsimp only
  clear HCE HRO
  go_enter Tryz.func36,Tryz.ntmps36
  go_wp2_with fail
  refine (oz HR).mono ?_
  rintro e w1 ⟨rfl,hb⟩
  have HS1:=kz (((oz HS).below hb).below (al1 w1 (.cells #[.int .i64 x0,.int .i64 x1,.int .i64 x2] 76)))
  have bY:=Blk.new w1 #[.int .i64 x0,.int .i64 x1,.int .i64 x2] 76
  have s0:=bY.cell 0
  have s1:=bY.cell 1
  have s2:=bY.cell 2
  have r0:=(oz HS1).rs.cell 0
  have r1:=(oz HS1).rs.cell 1
  have r2:=(oz HS1).rs.cell 2
  have f0:=(oz HS1).rs.frozen 0
  have f1:=(oz HS1).rs.frozen 1
  have f2:=(oz HS1).rs.frozen 2
  clear hb HR HS q0 q1 q2 q3 q4 q5 q6 q7 bY
  go_wp2_with fail
  go_region_with (fail)
  all_goals
   go_wp2_with fail
   refine bodyPost_ret (v := .tuple #[.pointer none,.agg #[.int .i64 x0,.int .i64 x1,.int .i64 x2]]) (zqv Tryz.results36 rfl (zcw (show Blk _ _ _ _ from (oz HS1).rs) _ _ _) rfl) rfl ⟨_,rfl, ?_⟩
   exact ⟨zhC (oz HS1).bl (by omega) (oz HS1).bl.size _ _ _,fun q =>absurd (by rw [oz HC] at q;exact q) hx,fun _ =>rfl⟩
end Go.Proofs.YtmemedpoaocdkaaGreat
