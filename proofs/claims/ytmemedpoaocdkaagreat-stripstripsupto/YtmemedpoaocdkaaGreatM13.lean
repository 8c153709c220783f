/- Texts of this claim, one behind the other. -/
import Derived.Test.YtmemedpoaocdkaaGreatM12
namespace Go.Proofs.YtmemedpoaocdkaaGreat
set_option linter.unusedVariables false
section
open Go.RowKit Go.Shelf
set_option maxRecDepth 100000
set_option maxHeartbeats 8000000
theorem RnC.below {w w':World} {a:Option Addr} {zs:List Int} (h:RnC w w.heap.size a zs) (hb:Below w.heap.size w w'):RnC w' w'.heap.size a zs:=fun h0 =>by
 obtain ⟨g,o,e,hg,hc⟩:=h h0
 exact ⟨g,o,e,Nat.lt_of_lt_of_le hg hb.size,fun j x hx =>(hb.cell (p:=⟨g,o+j,none⟩) hg).trans (hc j x hx)⟩
theorem zfd {w:World} {g:Nat} {x y:Int} {t:TypeId} (b:Blk w g #[.int .i64 x,.int .i64 y] t):∀ (j:Nat) (z:Int),[x,y][j]?=some z→w.cell? ⟨g,0+j,none⟩=some (.int .i64 z):=fun j z hj =>by
 rcases j with _ | _ | j
 ·obtain rfl:x=z:=by simpa using hj
  exact b.cell 0
 ·obtain rfl:y=z:=by simpa using hj
  exact b.cell 1
 ·simp at hj
def zrb (B:Nat) (r:Int) (c:Int) (e1:Int):Nat→Value→World→Prop
 | 0,v,w =>v=.pointer (some ⟨B,0,none⟩)
 | 1,v,w =>v=.int .i32 r
 | 2,v,w => ∃ g,v=.slice (some ⟨g,0,none⟩) 1 1∧RnC w w.heap.size (some ⟨g,0,none⟩) [r]
 | 3,v,w =>v=.int .i64 e1
 | 4,v,w =>v=.pointer (some ⟨B,1,none⟩)
 | 5,v,w =>v=.int .i64 c
 | 6,v,w =>v=.bool true
 | 7,v,w =>v=.bool true
 | 8,v,w =>v=undef
 | 9,v,w =>v=undef
 | 10,v,w =>v=undef
 | 11,v,w =>v=.bool true
 | 12,v,w =>v=.int .i64 30
 | 13,v,w => ∃ g,v=.slice (some ⟨g,0,none⟩) 2 2∧Blk w g #[.int .i64 e1,.int .i64 30] 74
 | 14,v,w =>v=.int .i64 (orE [e1,30])
 | _,v,w =>True
def zqI (j:Nat):Bool:=false
theorem zbZ {B:Nat} {r:Int} {c:Int} {e1:Int} {w w':World} (hb:Below w.heap.size w w'):∀ (j:Nat) (v:Value),zrb B r c e1 j v w→zrb B r c e1 j v w'
 | 0,v,h =>h
 | 1,v,h =>h
 | 2,v,h =>let ⟨g,e,h2⟩:=h; ⟨g,e,h2.below hb⟩
 | 3,v,h =>h
 | 4,v,h =>h
 | 5,v,h =>h
 | 6,v,h =>h
 | 7,v,h =>h
 | 8,v,h =>h
 | 9,v,h =>h
 | 10,v,h =>h
 | 11,v,h =>h
 | 12,v,h =>h
 | 13,v,h =>let ⟨g,e,h2⟩:=h; ⟨g,e,h2.below hb h2.lt⟩
 | 14,v,h =>h
 | _+15,v,h =>h
theorem zb0 {B:Nat} {r:Int} {c:Int} {e1:Int} {w:World} (j:Nat) (v:Value) (hm:zqI j=true) (h:zrb B r c e1 j v w):∀ b,v.ownBlock=some b→b < w.heap.size:=by
 cases hm
def zra (B:Nat) (r:Int) (c:Int) (e1:Int):Nat→Value→World→Prop
 | 0,v,w =>v=.pointer (some ⟨B,0,none⟩)
 | 1,v,w =>v=.int .i32 r
 | 2,v,w => ∃ g,v=.slice (some ⟨g,0,none⟩) 1 1∧RnC w w.heap.size (some ⟨g,0,none⟩) [r]
 | 3,v,w =>v=.int .i64 e1
 | 4,v,w =>v=.pointer (some ⟨B,1,none⟩)
 | 5,v,w =>v=.int .i64 c
 | 6,v,w =>v=.bool false
 | 7,v,w =>v=.bool false
 | 8,v,w =>v=.pointer (some ⟨B,1,none⟩)
 | 9,v,w =>v=.int .i64 c
 | 10,v,w =>v=.bool true
 | 11,v,w =>v=.bool true
 | 12,v,w =>v=.int .i64 30
 | 13,v,w => ∃ g,v=.slice (some ⟨g,0,none⟩) 2 2∧Blk w g #[.int .i64 e1,.int .i64 30] 74
 | 14,v,w =>v=.int .i64 (orE [e1,30])
 | _,v,w =>True
def zqH (j:Nat):Bool:=false
theorem zbX {B:Nat} {r:Int} {c:Int} {e1:Int} {w w':World} (hb:Below w.heap.size w w'):∀ (j:Nat) (v:Value),zra B r c e1 j v w→zra B r c e1 j v w'
 | 0,v,h =>h
 | 1,v,h =>h
 | 2,v,h =>let ⟨g,e,h2⟩:=h; ⟨g,e,h2.below hb⟩
 | 3,v,h =>h
 | 4,v,h =>h
 | 5,v,h =>h
 | 6,v,h =>h
 | 7,v,h =>h
 | 8,v,h =>h
 | 9,v,h =>h
 | 10,v,h =>h
 | 11,v,h =>h
 | 12,v,h =>h
 | 13,v,h =>let ⟨g,e,h2⟩:=h; ⟨g,e,h2.below hb h2.lt⟩
 | 14,v,h =>h
 | _+15,v,h =>h
theorem zbY {B:Nat} {r:Int} {c:Int} {e1:Int} {w:World} (j:Nat) (v:Value) (hm:zqH j=true) (h:zra B r c e1 j v w):∀ b,v.ownBlock=some b→b < w.heap.size:=by
 cases hm
def zq9 (B:Nat) (r:Int) (c:Int) (e1:Int):Nat→Value→World→Prop
 | 0,v,w =>v=.pointer (some ⟨B,0,none⟩)
 | 1,v,w =>v=.int .i32 r
 | 2,v,w => ∃ g,v=.slice (some ⟨g,0,none⟩) 1 1∧RnC w w.heap.size (some ⟨g,0,none⟩) [r]
 | 3,v,w =>v=.int .i64 e1
 | 4,v,w =>v=.pointer (some ⟨B,1,none⟩)
 | 5,v,w =>v=.int .i64 c
 | 6,v,w =>v=.bool false
 | 7,v,w =>v=.bool false
 | 8,v,w =>v=.pointer (some ⟨B,1,none⟩)
 | 9,v,w =>v=.int .i64 c
 | 10,v,w =>v=.bool false
 | 11,v,w =>v=.bool false
 | 12,v,w =>v=.int .i64 0
 | 13,v,w => ∃ g,v=.slice (some ⟨g,0,none⟩) 2 2∧Blk w g #[.int .i64 e1,.int .i64 0] 74
 | 14,v,w =>v=.int .i64 (orE [e1,0])
 | _,v,w =>True
def zqG (j:Nat):Bool:=false
theorem zbV {B:Nat} {r:Int} {c:Int} {e1:Int} {w w':World} (hb:Below w.heap.size w w'):∀ (j:Nat) (v:Value),zq9 B r c e1 j v w→zq9 B r c e1 j v w'
 | 0,v,h =>h
 | 1,v,h =>h
 | 2,v,h =>let ⟨g,e,h2⟩:=h; ⟨g,e,h2.below hb⟩
 | 3,v,h =>h
 | 4,v,h =>h
 | 5,v,h =>h
 | 6,v,h =>h
 | 7,v,h =>h
 | 8,v,h =>h
 | 9,v,h =>h
 | 10,v,h =>h
 | 11,v,h =>h
 | 12,v,h =>h
 | 13,v,h =>let ⟨g,e,h2⟩:=h; ⟨g,e,h2.below hb h2.lt⟩
 | 14,v,h =>h
 | _+15,v,h =>h
theorem zbW {B:Nat} {r:Int} {c:Int} {e1:Int} {w:World} (j:Nat) (v:Value) (hm:zqG j=true) (h:zq9 B r c e1 j v w):∀ b,v.ownBlock=some b→b < w.heap.size:=by
 cases hm
theorem zhY (r c:Int) (W:World):Calls Tryz.prog 110 #[.agg #[.int .i32 r,.int .i64 c]] W fun e w' =>e=.returned (.int .i64 (maF (r,c)))∧Below W.heap.size W w':=by
 have hmx:Tryz.prog.follows .mixedOrders=true:=by kernel_rfl
 have hB0:Below W.heap.size W (W.alloc (.cells #[.int .i32 r,.int .i64 c] 115)).drew:=((Below.refl _ W).alloc (Nat.le_refl _) _).trans ⟨rfl,rfl,rfl,Nat.le_refl _,fun _ _ =>rfl⟩
 have bA:Blk (W.alloc (.cells #[.int .i32 r,.int .i64 c] 115)).drew W.heap.size #[.int .i32 r,.int .i64 c] 115:=Blk.new W #[.int .i32 r,.int .i64 c] 115
 have HF:Hz (∀ w1,Below (W.alloc (.cells #[.int .i32 r,.int .i64 c] 115)).drew.heap.size (W.alloc (.cells #[.int .i32 r,.int .i64 c] 115)).drew w1→Blk w1 W.heap.size #[.int .i32 r,.int .i64 c] 115):=kz (fun w1 h =>bA.below h bA.lt)
 have HB:=kz hB0
 clear hB0 bA
 rw [zmQ]
 obtain ⟨e1,he1⟩:∃ e1:Int,(if ([r] : List Int).all zan then 0 else 12)=e1:=⟨_,rfl⟩
 rw [he1]
 have HE:=kz he1
 clear he1
 generalize hq:decide (c < 1∨254 < c)=q
 have hc3:(decide (c < 1)=true∧decide (c < 1)=true∧q=true)∨(decide (c < 1)=false∧decide (254 < c)=true∧q=true)∨(decide (c < 1)=false∧decide (254 < c)=false∧q=false):=by
  subst hq
  by_cases h1:c < 1
  ·simp [h1]
  ·by_cases h2:254 < c <;> simp [h1,h2]
 clear hq
 rcases hc3 with ⟨h1,h2,rfl⟩ | ⟨h1,h2,rfl⟩ | ⟨h1,h2,rfl⟩
 ·have H1:=kz h1
  have H2:=kz h2
  clear h1 h2
  go_enter Tryz.func110,Tryz.ntmps110
  go_wp2_with fail
  generalize W.alloc (.cells #[.int .i32 r,.int .i64 c] 115)=w0 at *
  refine zao hmx 15 (by decide) (by kernel_rfl) (by kernel_rfl) (fun l a w => ∃ U:Nat→Value,a = { tmps:=#[.agg #[.int .i32 r,.int .i64 c],.pointer (some ⟨W.heap.size,0,none⟩),.int .i64 0,U 0,U 1,U 2,U 3,U 4,U 5,U 6,U 7,U 8,U 9,U 10,U 11,U 12,U 13,U 14],defers := [] }∧RgJ (w0.drew) (w0.drew.heap.size) (zrb W.heap.size r c e1) zqI l U w) ⟨fun _ =>undef,rfl,RgJ.start _ _ (Nat.le_refl _)⟩ ?_ ?_
  ·rintro l a w i ⟨U,rfl,hJ⟩ hl hi hif
   have h0:=(mem_ready.1 hi).1
   have hlt:=zc9 hl h0
   have HJ:=kz hJ
   clear hJ hl
   replace hlt:i < 16:=hlt
   obtain rfl | rfl | rfl | rfl | rfl | rfl | rfl | rfl | rfl | rfl | rfl | rfl | rfl | rfl | rfl:i=0∨i=1∨i=2∨i=3∨i=4∨i=5∨i=6∨i=7∨i=8∨i=9∨i=10∨i=11∨i=12∨i=13∨i=14:=by omega
   ·refine wpOp_step rfl (fun K hK =>?_)
    clear hlt hif
    go_simp
    exact hK _ _ ⟨zaa U 0 _,rfl,(oz HJ).put 0 _ h0 (Below.refl _ _) (zbZ (Below.refl _ _)) rfl zb0 (fun h =>absurd h (by decide))⟩
   ·refine wpOp_step rfl (fun K hK =>?_)
    clear hlt hif
    have d0:U 0=.pointer (some ⟨W.heap.size,0,none⟩):=(oz HJ).val 0 (zab hi 0 (by kernel_rfl))
    have q0:=(oz HF w (oz HJ).bel).cell 0
    go_simp
    exact hK _ _ ⟨zaa U 1 _,(by rw [zac d0];rfl),(oz HJ).put 1 _ h0 (Below.refl _ _) (zbZ (Below.refl _ _)) rfl zb0 (fun h =>absurd h (by decide))⟩
   ·refine wpOp_step rfl (fun K hK =>?_)
    clear hlt hif
    have d1:U 1=.int .i32 r:=(oz HJ).val 1 (zab hi 1 (by kernel_rfl))
    go_simp
    exact hK _ _ ⟨zaa U 2 _,(by rw [zac d1];rfl),(oz HJ).put 2 _ h0 ((Below.refl _ _).alloc (Nat.le_refl _) _) (zbZ ((Below.refl _ _).alloc (Nat.le_refl _) _)) ⟨_,rfl,zeA w _ r _ rfl⟩ zb0 (fun h =>absurd h (by decide))⟩
   ·refine wpOp_step rfl (fun K hK =>?_)
    clear hlt hif
    obtain ⟨g2,d2,h2⟩:=(oz HJ).val 2 (zab hi 2 (by kernel_rfl))
    go_simp
    refine (zdx [r] (by simp) _ _ _ h2).mono ?_
    rw [oz HE]
    rintro e w' ⟨rfl,hb⟩
    exact hK _ _ ⟨zaa U 3 _,(by rw [zac d2];rfl),(oz HJ).put 3 _ h0 hb (zbZ hb) rfl zb0 (fun h =>absurd h (by decide))⟩
   ·refine wpOp_step rfl (fun K hK =>?_)
    clear hlt hif
    go_simp
    exact hK _ _ ⟨zaa U 4 _,rfl,(oz HJ).put 4 _ h0 (Below.refl _ _) (zbZ (Below.refl _ _)) rfl zb0 (fun h =>absurd h (by decide))⟩
   ·refine wpOp_step rfl (fun K hK =>?_)
    clear hlt hif
    have d4:U 4=.pointer (some ⟨W.heap.size,1,none⟩):=(oz HJ).val 4 (zab hi 4 (by kernel_rfl))
    have q1:=(oz HF w (oz HJ).bel).cell 1
    go_simp
    exact hK _ _ ⟨zaa U 5 _,(by rw [zac d4];rfl),(oz HJ).put 5 _ h0 (Below.refl _ _) (zbZ (Below.refl _ _)) rfl zb0 (fun h =>absurd h (by decide))⟩
   ·refine wpOp_step rfl (fun K hK =>?_)
    clear hlt hif
    have d5:U 5=.int .i64 c:=(oz HJ).val 5 (zab hi 5 (by kernel_rfl))
    have hc1:=oz H1
    go_simp
    exact hK _ _ ⟨zaa U 6 _,(by rw [zac d5];rfl),(oz HJ).put 6 _ h0 (Below.refl _ _) (zbZ (Below.refl _ _)) rfl zb0 (fun h =>absurd h (by decide))⟩
   ·refine wpOp_step rfl (fun K hK =>?_)
    clear hlt hif
    have d6:U 6=.bool true:=(oz HJ).val 6 (zab hi 6 (by kernel_rfl))
    go_simp
    exact hK _ _ ⟨zaa U 7 _,(by rw [zac d6];rfl),(oz HJ).put 7 _ h0 (Below.refl _ _) (zbZ (Below.refl _ _)) rfl zb0 (fun h =>absurd h (by decide))⟩
   ·refine wpOp_step rfl (fun K hK =>?_)
    clear hlt hif
    have d7:U 7=.bool true:=(oz HJ).val 7 (zab hi 7 (by kernel_rfl))
    go_simp
    exact hK _ _ ⟨zaa U 8 _,(by rw [zac d7];rfl),(oz HJ).put 8 _ h0 (Below.refl _ _) (zbZ (Below.refl _ _)) rfl zb0 (fun h =>absurd h (by decide))⟩
   ·refine wpOp_step rfl (fun K hK =>?_)
    clear hlt hif
    have d7:U 7=.bool true:=(oz HJ).val 7 (zab hi 7 (by kernel_rfl))
    have d8:U 8=undef:=(oz HJ).val 8 (zab hi 8 (by kernel_rfl))
    go_simp
    exact hK _ _ ⟨zaa U 9 _,(by rw [zac d7,zac d8];rfl),(oz HJ).put 9 _ h0 (Below.refl _ _) (zbZ (Below.refl _ _)) rfl zb0 (fun h =>absurd h (by decide))⟩
   ·refine wpOp_step rfl (fun K hK =>?_)
    clear hlt hif
    have d7:U 7=.bool true:=(oz HJ).val 7 (zab hi 7 (by kernel_rfl))
    have d9:U 9=undef:=(oz HJ).val 9 (zab hi 9 (by kernel_rfl))
    go_simp
    exact hK _ _ ⟨zaa U 10 _,(by rw [zac d7,zac d9];rfl),(oz HJ).put 10 _ h0 (Below.refl _ _) (zbZ (Below.refl _ _)) rfl zb0 (fun h =>absurd h (by decide))⟩
   ·refine wpOp_step rfl (fun K hK =>?_)
    clear hlt hif
    have d7:U 7=.bool true:=(oz HJ).val 7 (zab hi 7 (by kernel_rfl))
    have d10:U 10=undef:=(oz HJ).val 10 (zab hi 10 (by kernel_rfl))
    go_simp
    exact hK _ _ ⟨zaa U 11 _,(by rw [zac d7,zac d10];rfl),(oz HJ).put 11 _ h0 (Below.refl _ _) (zbZ (Below.refl _ _)) rfl zb0 (fun h =>absurd h (by decide))⟩
   ·refine wpOp_step rfl (fun K hK =>?_)
    clear hlt hif
    have d11:U 11=.bool true:=(oz HJ).val 11 (zab hi 11 (by kernel_rfl))
    go_simp
    refine (zaF true 30 _).mono ?_
    rintro e w' ⟨rfl,rfl⟩
    exact hK _ _ ⟨zaa U 12 _,(by rw [zac d11];rfl),(oz HJ).put 12 _ h0 (Below.refl _ _) (zbZ (Below.refl _ _)) rfl zb0 (fun h =>absurd h (by decide))⟩
   ·refine wpOp_step rfl (fun K hK =>?_)
    clear hlt hif
    have d3:U 3=.int .i64 e1:=(oz HJ).val 3 (zab hi 3 (by kernel_rfl))
    have d12:U 12=.int .i64 30:=(oz HJ).val 12 (zab hi 12 (by kernel_rfl))
    go_simp
    exact hK _ _ ⟨zaa U 13 _,(by rw [zac d3,zac d12];rfl),(oz HJ).put 13 _ h0 ((Below.refl _ _).alloc (Nat.le_refl _) _) (zbZ ((Below.refl _ _).alloc (Nat.le_refl _) _)) ⟨_,rfl,Blk.new w _ _⟩ zb0 (fun h =>absurd h (by decide))⟩
   ·refine wpOp_step rfl (fun K hK =>?_)
    clear hlt hif
    obtain ⟨g13,d13,h13⟩:=(oz HJ).val 13 (zab hi 13 (by kernel_rfl))
    go_simp
    refine (zbo [e1,30] (by simp) _ 0 _ _ (zfd h13)).mono ?_
    rintro e w' ⟨rfl,rfl⟩
    exact hK _ _ ⟨zaa U 14 _,(by rw [zac d13];rfl),(oz HJ).put 14 _ h0 (Below.refl _ _) (zbZ (Below.refl _ _)) rfl zb0 (fun h =>absurd h (by decide))⟩
  ·rintro l a w ⟨U,rfl,hJ⟩ hall
   have d14:U 14=.int .i64 (orE [e1,30]):=hJ.val 14 (hall 14 (by decide) (by decide))
   have HBJ:=kz ((oz HB).trans (hJ.bel.mono (oz HB).size))
   clear hJ hall
   refine wpOp_step rfl (fun K hK =>?_)
   go_simp
   refine hK _ _ ?_
   clear hK
   go_wp2_with fail
   go_ret
   exact ⟨by first | rfl | simp,oz HBJ⟩
 ·have H1:=kz h1
  have H2:=kz h2
  clear h1 h2
  go_enter Tryz.func110,Tryz.ntmps110
  go_wp2_with fail
  generalize W.alloc (.cells #[.int .i32 r,.int .i64 c] 115)=w0 at *
  refine zao hmx 15 (by decide) (by kernel_rfl) (by kernel_rfl) (fun l a w => ∃ U:Nat→Value,a = { tmps:=#[.agg #[.int .i32 r,.int .i64 c],.pointer (some ⟨W.heap.size,0,none⟩),.int .i64 0,U 0,U 1,U 2,U 3,U 4,U 5,U 6,U 7,U 8,U 9,U 10,U 11,U 12,U 13,U 14],defers := [] }∧RgJ (w0.drew) (w0.drew.heap.size) (zra W.heap.size r c e1) zqH l U w) ⟨fun _ =>undef,rfl,RgJ.start _ _ (Nat.le_refl _)⟩ ?_ ?_
  ·rintro l a w i ⟨U,rfl,hJ⟩ hl hi hif
   have h0:=(mem_ready.1 hi).1
   have hlt:=zc9 hl h0
   have HJ:=kz hJ
   clear hJ hl
   replace hlt:i < 16:=hlt
   obtain rfl | rfl | rfl | rfl | rfl | rfl | rfl | rfl | rfl | rfl | rfl | rfl | rfl | rfl | rfl:i=0∨i=1∨i=2∨i=3∨i=4∨i=5∨i=6∨i=7∨i=8∨i=9∨i=10∨i=11∨i=12∨i=13∨i=14:=by omega
   ·refine wpOp_step rfl (fun K hK =>?_)
    clear hlt hif
    go_simp
    exact hK _ _ ⟨zaa U 0 _,rfl,(oz HJ).put 0 _ h0 (Below.refl _ _) (zbX (Below.refl _ _)) rfl zbY (fun h =>absurd h (by decide))⟩
   ·refine wpOp_step rfl (fun K hK =>?_)
    clear hlt hif
    have d0:U 0=.pointer (some ⟨W.heap.size,0,none⟩):=(oz HJ).val 0 (zab hi 0 (by kernel_rfl))
    have q0:=(oz HF w (oz HJ).bel).cell 0
    go_simp
    exact hK _ _ ⟨zaa U 1 _,(by rw [zac d0];rfl),(oz HJ).put 1 _ h0 (Below.refl _ _) (zbX (Below.refl _ _)) rfl zbY (fun h =>absurd h (by decide))⟩
   ·refine wpOp_step rfl (fun K hK =>?_)
    clear hlt hif
    have d1:U 1=.int .i32 r:=(oz HJ).val 1 (zab hi 1 (by kernel_rfl))
    go_simp
    exact hK _ _ ⟨zaa U 2 _,(by rw [zac d1];rfl),(oz HJ).put 2 _ h0 ((Below.refl _ _).alloc (Nat.le_refl _) _) (zbX ((Below.refl _ _).alloc (Nat.le_refl _) _)) ⟨_,rfl,zeA w _ r _ rfl⟩ zbY (fun h =>absurd h (by decide))⟩
   ·refine wpOp_step rfl (fun K hK =>?_)
    clear hlt hif
    obtain ⟨g2,d2,h2⟩:=(oz HJ).val 2 (zab hi 2 (by kernel_rfl))
    go_simp
    refine (zdx [r] (by simp) _ _ _ h2).mono ?_
    rw [oz HE]
    rintro e w' ⟨rfl,hb⟩
    exact hK _ _ ⟨zaa U 3 _,(by rw [zac d2];rfl),(oz HJ).put 3 _ h0 hb (zbX hb) rfl zbY (fun h =>absurd h (by decide))⟩
   ·refine wpOp_step rfl (fun K hK =>?_)
    clear hlt hif
    go_simp
    exact hK _ _ ⟨zaa U 4 _,rfl,(oz HJ).put 4 _ h0 (Below.refl _ _) (zbX (Below.refl _ _)) rfl zbY (fun h =>absurd h (by decide))⟩
   ·refine wpOp_step rfl (fun K hK =>?_)
    clear hlt hif
    have d4:U 4=.pointer (some ⟨W.heap.size,1,none⟩):=(oz HJ).val 4 (zab hi 4 (by kernel_rfl))
    have q1:=(oz HF w (oz HJ).bel).cell 1
    go_simp
    exact hK _ _ ⟨zaa U 5 _,(by rw [zac d4];rfl),(oz HJ).put 5 _ h0 (Below.refl _ _) (zbX (Below.refl _ _)) rfl zbY (fun h =>absurd h (by decide))⟩
   ·refine wpOp_step rfl (fun K hK =>?_)
    clear hlt hif
    have d5:U 5=.int .i64 c:=(oz HJ).val 5 (zab hi 5 (by kernel_rfl))
    have hc1:=oz H1
    go_simp
    exact hK _ _ ⟨zaa U 6 _,(by rw [zac d5];rfl),(oz HJ).put 6 _ h0 (Below.refl _ _) (zbX (Below.refl _ _)) rfl zbY (fun h =>absurd h (by decide))⟩
   ·refine wpOp_step rfl (fun K hK =>?_)
    clear hlt hif
    have d6:U 6=.bool false:=(oz HJ).val 6 (zab hi 6 (by kernel_rfl))
    go_simp
    exact hK _ _ ⟨zaa U 7 _,(by rw [zac d6];rfl),(oz HJ).put 7 _ h0 (Below.refl _ _) (zbX (Below.refl _ _)) rfl zbY (fun h =>absurd h (by decide))⟩
   ·refine wpOp_step rfl (fun K hK =>?_)
    clear hlt hif
    have d7:U 7=.bool false:=(oz HJ).val 7 (zab hi 7 (by kernel_rfl))
    go_simp
    exact hK _ _ ⟨zaa U 8 _,(by rw [zac d7];rfl),(oz HJ).put 8 _ h0 (Below.refl _ _) (zbX (Below.refl _ _)) rfl zbY (fun h =>absurd h (by decide))⟩
   ·refine wpOp_step rfl (fun K hK =>?_)
    clear hlt hif
    have d8:U 8=.pointer (some ⟨W.heap.size,1,none⟩):=(oz HJ).val 8 (zab hi 8 (by kernel_rfl))
    have d7:U 7=.bool false:=(oz HJ).val 7 (zab hi 7 (by kernel_rfl))
    have q1:=(oz HF w (oz HJ).bel).cell 1
    go_simp
    exact hK _ _ ⟨zaa U 9 _,(by rw [zac d8,zac d7];rfl),(oz HJ).put 9 _ h0 (Below.refl _ _) (zbX (Below.refl _ _)) rfl zbY (fun h =>absurd h (by decide))⟩
   ·refine wpOp_step rfl (fun K hK =>?_)
    clear hlt hif
    have d9:U 9=.int .i64 c:=(oz HJ).val 9 (zab hi 9 (by kernel_rfl))
    have d7:U 7=.bool false:=(oz HJ).val 7 (zab hi 7 (by kernel_rfl))
    have hc2:=oz H2
    go_simp
    exact hK _ _ ⟨zaa U 10 _,(by rw [zac d9,zac d7];rfl),(oz HJ).put 10 _ h0 (Below.refl _ _) (zbX (Below.refl _ _)) rfl zbY (fun h =>absurd h (by decide))⟩
   ·refine wpOp_step rfl (fun K hK =>?_)
    clear hlt hif
    have d7:U 7=.bool false:=(oz HJ).val 7 (zab hi 7 (by kernel_rfl))
    have d10:U 10=.bool true:=(oz HJ).val 10 (zab hi 10 (by kernel_rfl))
    go_simp
    exact hK _ _ ⟨zaa U 11 _,(by rw [zac d7,zac d10];rfl),(oz HJ).put 11 _ h0 (Below.refl _ _) (zbX (Below.refl _ _)) rfl zbY (fun h =>absurd h (by decide))⟩
   ·refine wpOp_step rfl (fun K hK =>?_)
    clear hlt hif
    have d11:U 11=.bool true:=(oz HJ).val 11 (zab hi 11 (by kernel_rfl))
    go_simp
    refine (zaF true 30 _).mono ?_
    rintro e w' ⟨rfl,rfl⟩
    exact hK _ _ ⟨zaa U 12 _,(by rw [zac d11];rfl),(oz HJ).put 12 _ h0 (Below.refl _ _) (zbX (Below.refl _ _)) rfl zbY (fun h =>absurd h (by decide))⟩
   ·refine wpOp_step rfl (fun K hK =>?_)
    clear hlt hif
    have d3:U 3=.int .i64 e1:=(oz HJ).val 3 (zab hi 3 (by kernel_rfl))
    have d12:U 12=.int .i64 30:=(oz HJ).val 12 (zab hi 12 (by kernel_rfl))
    go_simp
    exact hK _ _ ⟨zaa U 13 _,(by rw [zac d3,zac d12];rfl),(oz HJ).put 13 _ h0 ((Below.refl _ _).alloc (Nat.le_refl _) _) (zbX ((Below.refl _ _).alloc (Nat.le_refl _) _)) ⟨_,rfl,Blk.new w _ _⟩ zbY (fun h =>absurd h (by decide))⟩
   ·refine wpOp_step rfl (fun K hK =>?_)
    clear hlt hif
    obtain ⟨g13,d13,h13⟩:=(oz HJ).val 13 (zab hi 13 (by kernel_rfl))
    go_simp
    refine (zbo [e1,30] (by simp) _ 0 _ _ (zfd h13)).mono ?_
    rintro e w' ⟨rfl,rfl⟩
    exact hK _ _ ⟨zaa U 14 _,(by rw [zac d13];rfl),(oz HJ).put 14 _ h0 (Below.refl _ _) (zbX (Below.refl _ _)) rfl zbY (fun h =>absurd h (by decide))⟩
  ·rintro l a w ⟨U,rfl,hJ⟩ hall
   have d14:U 14=.int .i64 (orE [e1,30]):=hJ.val 14 (hall 14 (by decide) (by decide))
   have HBJ:=kz ((oz HB).trans (hJ.bel.mono (oz HB).size))
   clear hJ hall
   refine wpOp_step rfl (fun K hK =>?_)
   go_simp
   refine hK _ _ ?_
   clear hK
   go_wp2_with fail
   go_ret
   exact ⟨by first | rfl | simp,oz HBJ⟩
 ·have H1:=kz h1
  have H2:=kz h2
  clear h1 h2
  go_enter Tryz.func110,Tryz.ntmps110
  go_wp2_with fail
  generalize W.alloc (.cells #[.int .i32 r,.int .i64 c] 115)=w0 at *
  refine zao hmx 15 (by decide) (by kernel_rfl) (by kernel_rfl) (fun l a w => ∃ U:Nat→Value,a = { tmps:=#[.agg #[.int .i32 r,.int .i64 c],.pointer (some ⟨W.heap.size,0,none⟩),.int .i64 0,U 0,U 1,U 2,U 3,U 4,U 5,U 6,U 7,U 8,U 9,U 10,U 11,U 12,U 13,U 14],defers := [] }∧RgJ (w0.drew) (w0.drew.heap.size) (zq9 W.heap.size r c e1) zqG l U w) ⟨fun _ =>undef,rfl,RgJ.start _ _ (Nat.le_refl _)⟩ ?_ ?_
  ·rintro l a w i ⟨U,rfl,hJ⟩ hl hi hif
   have h0:=(mem_ready.1 hi).1
   have hlt:=zc9 hl h0
   have HJ:=kz hJ
   clear hJ hl
   replace hlt:i < 16:=hlt
   obtain rfl | rfl | rfl | rfl | rfl | rfl | rfl | rfl | rfl | rfl | rfl | rfl | rfl | rfl | rfl:i=0∨i=1∨i=2∨i=3∨i=4∨i=5∨i=6∨i=7∨i=8∨i=9∨i=10∨i=11∨i=12∨i=13∨i=14:=by omega
   ·refine wpOp_step rfl (fun K hK =>?_)
    clear hlt hif
    go_simp
    exact hK _ _ ⟨zaa U 0 _,rfl,(oz HJ).put 0 _ h0 (Below.refl _ _) (zbV (Below.refl _ _)) rfl zbW (fun h =>absurd h (by decide))⟩
   ·refine wpOp_step rfl (fun K hK =>?_)
    clear hlt hif
    have d0:U 0=.pointer (some ⟨W.heap.size,0,none⟩):=(oz HJ).val 0 (zab hi 0 (by kernel_rfl))
    have q0:=(oz HF w (oz HJ).bel).cell 0
    go_simp
    exact hK _ _ ⟨zaa U 1 _,(by rw [zac d0];rfl),(oz HJ).put 1 _ h0 (Below.refl _ _) (zbV (Below.refl _ _)) rfl zbW (fun h =>absurd h (by decide))⟩
   ·refine wpOp_step rfl (fun K hK =>?_)
    clear hlt hif
    have d1:U 1=.int .i32 r:=(oz HJ).val 1 (zab hi 1 (by kernel_rfl))
    go_simp
    exact hK _ _ ⟨zaa U 2 _,(by rw [zac d1];rfl),(oz HJ).put 2 _ h0 ((Below.refl _ _).alloc (Nat.le_refl _) _) (zbV ((Below.refl _ _).alloc (Nat.le_refl _) _)) ⟨_,rfl,zeA w _ r _ rfl⟩ zbW (fun h =>absurd h (by decide))⟩
   ·refine wpOp_step rfl (fun K hK =>?_)
    clear hlt hif
    obtain ⟨g2,d2,h2⟩:=(oz HJ).val 2 (zab hi 2 (by kernel_rfl))
    go_simp
    refine (zdx [r] (by simp) _ _ _ h2).mono ?_
    rw [oz HE]
    rintro e w' ⟨rfl,hb⟩
    exact hK _ _ ⟨zaa U 3 _,(by rw [zac d2];rfl),(oz HJ).put 3 _ h0 hb (zbV hb) rfl zbW (fun h =>absurd h (by decide))⟩
   ·refine wpOp_step rfl (fun K hK =>?_)
    clear hlt hif
    go_simp
    exact hK _ _ ⟨zaa U 4 _,rfl,(oz HJ).put 4 _ h0 (Below.refl _ _) (zbV (Below.refl _ _)) rfl zbW (fun h =>absurd h (by decide))⟩
   ·refine wpOp_step rfl (fun K hK =>?_)
    clear hlt hif
    have d4:U 4=.pointer (some ⟨W.heap.size,1,none⟩):=(oz HJ).val 4 (zab hi 4 (by kernel_rfl))
    have q1:=(oz HF w (oz HJ).bel).cell 1
    go_simp
    exact hK _ _ ⟨zaa U 5 _,(by rw [zac d4];rfl),(oz HJ).put 5 _ h0 (Below.refl _ _) (zbV (Below.refl _ _)) rfl zbW (fun h =>absurd h (by decide))⟩
   ·refine wpOp_step rfl (fun K hK =>?_)
    clear hlt hif
    have d5:U 5=.int .i64 c:=(oz HJ).val 5 (zab hi 5 (by kernel_rfl))
    have hc1:=oz H1
    go_simp
    exact hK _ _ ⟨zaa U 6 _,(by rw [zac d5];rfl),(oz HJ).put 6 _ h0 (Below.refl _ _) (zbV (Below.refl _ _)) rfl zbW (fun h =>absurd h (by decide))⟩
   ·refine wpOp_step rfl (fun K hK =>?_)
    clear hlt hif
    have d6:U 6=.bool false:=(oz HJ).val 6 (zab hi 6 (by kernel_rfl))
    go_simp
    exact hK _ _ ⟨zaa U 7 _,(by rw [zac d6];rfl),(oz HJ).put 7 _ h0 (Below.refl _ _) (zbV (Below.refl _ _)) rfl zbW (fun h =>absurd h (by decide))⟩
   ·refine wpOp_step rfl (fun K hK =>?_)
    clear hlt hif
    have d7:U 7=.bool false:=(oz HJ).val 7 (zab hi 7 (by kernel_rfl))
    go_simp
    exact hK _ _ ⟨zaa U 8 _,(by rw [zac d7];rfl),(oz HJ).put 8 _ h0 (Below.refl _ _) (zbV (Below.refl _ _)) rfl zbW (fun h =>absurd h (by decide))⟩
   ·refine wpOp_step rfl (fun K hK =>?_)
    clear hlt hif
    have d8:U 8=.pointer (some ⟨W.heap.size,1,none⟩):=(oz HJ).val 8 (zab hi 8 (by kernel_rfl))
    have d7:U 7=.bool false:=(oz HJ).val 7 (zab hi 7 (by kernel_rfl))
    have q1:=(oz HF w (oz HJ).bel).cell 1
    go_simp
    exact hK _ _ ⟨zaa U 9 _,(by rw [zac d8,zac d7];rfl),(oz HJ).put 9 _ h0 (Below.refl _ _) (zbV (Below.refl _ _)) rfl zbW (fun h =>absurd h (by decide))⟩
   ·refine wpOp_step rfl (fun K hK =>?_)
    clear hlt hif
    have d9:U 9=.int .i64 c:=(oz HJ).val 9 (zab hi 9 (by kernel_rfl))
    have d7:U 7=.bool false:=(oz HJ).val 7 (zab hi 7 (by kernel_rfl))
    have hc2:=oz H2
    go_simp
    exact hK _ _ ⟨zaa U 10 _,(by rw [zac d9,zac d7];rfl),(oz HJ).put 10 _ h0 (Below.refl _ _) (zbV (Below.refl _ _)) rfl zbW (fun h =>absurd h (by decide))⟩
   ·refine wpOp_step rfl (fun K hK =>?_)
    clear hlt hif
    have d7:U 7=.bool false:=(oz HJ).val 7 (zab hi 7 (by kernel_rfl))
    have d10:U 10=.bool false:=(oz HJ).val 10 (zab hi 10 (by kernel_rfl))
    go_simp
    exact hK _ _ ⟨zaa U 11 _,(by rw [zac d7,zac d10];rfl),(oz HJ).put 11 _ h0 (Below.refl _ _) (zbV (Below.refl _ _)) rfl zbW (fun h =>absurd h (by decide))⟩
   ·refine wpOp_step rfl (fun K hK =>?_)
    clear hlt hif
    have d11:U 11=.bool false:=(oz HJ).val 11 (zab hi 11 (by kernel_rfl))
    go_simp
    refine (zaF false 30 _).mono ?_
    rintro e w' ⟨rfl,rfl⟩
    exact hK _ _ ⟨zaa U 12 _,(by rw [zac d11];rfl),(oz HJ).put 12 _ h0 (Below.refl _ _) (zbV (Below.refl _ _)) rfl zbW (fun h =>absurd h (by decide))⟩
   ·refine wpOp_step rfl (fun K hK =>?_)
    clear hlt hif
    have d3:U 3=.int .i64 e1:=(oz HJ).val 3 (zab hi 3 (by kernel_rfl))
    have d12:U 12=.int .i64 0:=(oz HJ).val 12 (zab hi 12 (by kernel_rfl))
    go_simp
    exact hK _ _ ⟨zaa U 13 _,(by rw [zac d3,zac d12];rfl),(oz HJ).put 13 _ h0 ((Below.refl _ _).alloc (Nat.le_refl _) _) (zbV ((Below.refl _ _).alloc (Nat.le_refl _) _)) ⟨_,rfl,Blk.new w _ _⟩ zbW (fun h =>absurd h (by decide))⟩
   ·refine wpOp_step rfl (fun K hK =>?_)
    clear hlt hif
    obtain ⟨g13,d13,h13⟩:=(oz HJ).val 13 (zab hi 13 (by kernel_rfl))
    go_simp
    refine (zbo [e1,0] (by simp) _ 0 _ _ (zfd h13)).mono ?_
    rintro e w' ⟨rfl,rfl⟩
    exact hK _ _ ⟨zaa U 14 _,(by rw [zac d13];rfl),(oz HJ).put 14 _ h0 (Below.refl _ _) (zbV (Below.refl _ _)) rfl zbW (fun h =>absurd h (by decide))⟩
  ·rintro l a w ⟨U,rfl,hJ⟩ hall
   have d14:U 14=.int .i64 (orE [e1,0]):=hJ.val 14 (hall 14 (by decide) (by decide))
   have HBJ:=kz ((oz HB).trans (hJ.bel.mono (oz HB).size))
   clear hJ hall
   refine wpOp_step rfl (fun K hK =>?_)
   go_simp
   refine hK _ _ ?_
   clear hK
   go_wp2_with fail
   go_ret
   exact ⟨by first | rfl | simp,oz HBJ⟩
end
section
open Go.RowKit Go.Shelf
attribute [local go_sem] Oper.semAt_some
set_option maxRecDepth 100000
set_option maxHeartbeats 8000000
theorem zpy {s:ByteArray} {x:Nat} (hx:x ∈ zah s) (hb:zdm s x=true):toB s=false:=by
 unfold toB
 rw [Bool.and_eq_false_iff]
 left
 cases h:okU s with
 | false =>rfl
 | true =>rw [zjA.1 h x hx] at hb;cases hb
theorem zoo {s:ByteArray} (h:4 < (zah s).length):toB s=false:=by
 unfold toB
 rw [Bool.and_eq_false_iff]
 right
 rw [zbD]
 simp
 omega
theorem zpz {s:ByteArray} (h:∀ p ∈ zah s,zdm s p=false) (hl:(zah s).length≤4):toB s=decide (0 < (zah s).length):=by
 unfold toB
 rw [zjA.2 h,zbD,Bool.true_and]
 by_cases h0:0 < (zah s).length
 ·rw [decide_eq_true h0,decide_eq_true ⟨h0,hl⟩]
 ·rw [decide_eq_false h0,decide_eq_false (fun q =>h0 q.1)]
theorem zp3 (n:Nat) (hn:3≤n) (s:ByteArray) (hs:s.size≤maxLen) (w:World) :
  CallsIn Fence.wide n Tryz.prog 173 #[.string s] w fun e W' =>e=.returned (.bool (toB s))∧Below w.heap.size w W':=by
 have h1:1≤n:=by omega
 refine callsIn_of_wp_marks Tryz.func173 rfl trivial ?_ rfl
 simp only [Tryz.ntmps173,List.size_toArray,List.length_cons,List.length_nil,Nat.reduceAdd,Nat.reduceSub,Array.replicate_succ,Array.replicate_zero,List.push_toArray,List.append_toArray,List.nil_append,List.cons_append]
 gi_wp2_with (refine ⟨trivial, ?_⟩;gi_at_call 41;refine (callsIn_wide.2 (ziu _ _)).mono ?_;rintro e w' ⟨rfl,rfl⟩)
 have hb3:=((Blk.new w #[.bool false] 4).alloc (.cells #[.int .i64 0] 3)).alloc (.cells #[.string s] 9)
 have hb4:=(Blk.new (w.alloc (.cells #[.bool false] 4)) #[.int .i64 0] 3).alloc (.cells #[.string s] 9)
 have hbS:=Blk.new ((w.alloc (.cells #[.bool false] 4)).alloc (.cells #[.int .i64 0] 3)) #[.string s] 9
 simp only [World.size_alloc] at hb4 hbS
 have hB0:Below w.heap.size w (((w.alloc (.cells #[.bool false] 4)).alloc (.cells #[.int .i64 0] 3)).alloc (.cells #[.string s] 9)):=(((Below.refl _ w).alloc (Nat.le_refl _) _).alloc (by simp) _).alloc (by simp;omega) _
 have hsz:(((w.alloc (.cells #[.bool false] 4)).alloc (.cells #[.int .i64 0] 3)).alloc (.cells #[.string s] 9)).heap.size=w.heap.size+3:=by simp
 obtain ⟨W0,hW0⟩:∃ W0,((w.alloc (.cells #[.bool false] 4)).alloc (.cells #[.int .i64 0] 3)).alloc (.cells #[.string s] 9)=W0:=⟨_,rfl⟩
 rw [hW0] at hb3 hb4 hbS hB0 hsz ⊢
 clear hW0
 refine wpIn_rangeFunc_ownH rfl h1 (gf:=63) (lb:=#[.pointer (some ⟨w.heap.size+1+1,0,none⟩)]) rfl trivial (enters_of Tryz.func63 (by kernel_rfl) rfl)
  (zjh (n - 1) (w.heap.size+1+1) (by omega) s hs W0 (hbS.cell 0)) zro (zrp (by omega)) (Below.refl _ _) (fun _ =>rfl)
  (fun pre W =>(Hz ((∀ i ∈ pre,zdm s i=false)∧pre.length≤4)∧Blk W w.heap.size #[.bool false] 4∧Blk W (w.heap.size+1) #[.int .i64 pre.length] 3∧Blk W (w.heap.size+1+1) #[.string s] 9)∧Below w.heap.size w W)
  (fun c pre W =>(c=.ret∧(∃ (q:List Nat) (x:Nat),pre=q++[x]∧(zdm s x=true∨4 < q.length+1))∧Blk W w.heap.size #[.bool false] 4)∧Below w.heap.size w W)
  (OwnFrom.and (Own.from (fun s A B row hs hg hr =>⟨hs.1,Blk.own _ (fun _ =>_) _ () A B row hs.2.1 hg hr,Blk.own _ (fun _ =>_) _ () A B row hs.2.2.1 hg hr,Blk.own _ (fun _ =>_) _ () A B row hs.2.2.2 hg hr⟩) _) (ownFrom_below (Nat.le_refl _) (by omega)))
  (fun c =>OwnFrom.and (Own.from (fun s A B row hs hg hr =>⟨hs.1,hs.2.1,Blk.own _ (fun _ =>_) _ () A B row hs.2.2 hg hr⟩) _) (ownFrom_below (Nat.le_refl _) (by omega)))
  ⟨⟨kz ⟨fun i hi =>(by cases hi),by simp⟩,hb3,hb4,hbS⟩,hB0⟩
  (fun x a' W => ∃ Bx,w.heap.size+1+1 < Bx∧Blk W Bx (zge (zhM s x)) 70∧a' = { tmps:=#[.string s,undef,.pointer (some ⟨w.heap.size,0,none⟩),.pointer (some ⟨w.heap.size+1,0,none⟩),undef,.pointer (some ⟨Bx,0,none⟩),.string s,.func (.func 63) #[] #[.pointer (some ⟨w.heap.size+1+1,0,none⟩)],.int .i64 x,zft (zhM s x),undef,undef,undef,undef,undef,undef,undef,undef,undef,undef],defers := [] })
  (fun x a' =>Own.from (fun u A B row hs hg hr =>by
   obtain ⟨Bx,h1,h2,h3⟩:=hs
   exact ⟨Bx,h1,Blk.own _ (fun _ =>_) _ () A B row h2 hg hr,h3⟩) _)
  ?assign ?body ?done ?stop
 case assign =>
  rintro l pre x W K ⟨⟨hp,k3,k4,kS⟩,hB⟩ hK
  gi_wp2
  exact hK _ _ ((KeepsOthers.alloc _ _).from _) ⟨(kS.alloc _).cell 0 |>.trans (kS.cell 0).symm,KeepsWalks.alloc _ _⟩ ⟨⟨hp,k3.alloc _,k4.alloc _,kS.alloc _⟩,hB.alloc hB.size _⟩ ⟨W.heap.size,kS.lt,Blk.new W _ 70,rfl⟩
 case body =>
  rintro l pre x a' W hl ⟨r,hr⟩ ⟨⟨hp,k3,k4,kS⟩,hB⟩ ⟨Bx,hBx,bX,rfl⟩ hlt
  have x2:W.cell? ⟨Bx,2,none⟩=some (.bool (zdm s x)):=bX.cell 2
  have x2s:∀ v,(W.setCell ⟨w.heap.size+1,0,none⟩ v).cell? ⟨Bx,2,none⟩=some (.bool (zdm s x)):=fun v =>(bX.other (by omega) v).cell 2
  have c3:=k3.cell 0
  have c4:=k4.cell 0
  have f3:=k3.frozen
  have f4:=k4.frozen
  have hpl:=(oz hp).2
  cases hbx:zdm s x with
  | true =>
   rw [hbx] at x2 x2s
   have HBX:=kz hbx
   clear hbx
   gi_wp2
   refine ⟨((KeepsOthers.setCell _ _ _).trans (KeepsOthers.setCell _ _ _)).from _,⟨rfl,⟨pre,x,rfl,.inl (oz HBX)⟩, ?_⟩, ?_⟩
   ·exact (k3.other (by omega) _).set 0 _
   ·exact (hB.setCell (p:=⟨w.heap.size+1,0,none⟩) (by simp) _).setCell (p:=⟨w.heap.size,0,none⟩) (Nat.le_refl _) _
  | false =>
   rw [hbx] at x2 x2s
   have HBX:=kz hbx
   clear hbx
   by_cases h4:pre.length < 4
   ·have h4':¬ (4:Int) < (pre.length:Int)+1:=by omega
    gi_wp2
    refine ⟨(KeepsOthers.setCell _ _ _).from _,⟨((kS.other (by omega) _).cell 0).trans (kS.cell 0).symm,(KeepsOthers.setCell _ _ _).walks⟩,⟨kz ⟨fun i hi =>?_, ?_⟩,k3.other (by omega) _, ?_,kS.other (by omega) _⟩,hB.setCell (p:=⟨w.heap.size+1,0,none⟩) (by simp) _⟩
    ·rcases List.mem_append.1 hi with h | h
     ·exact (oz hp).1 i h
     ·simp at h;rw [h];exact oz HBX
    ·rw [List.length_append];simp;omega
    ·rw [show (((pre++[x]).length:Nat):Int)=(pre.length:Int)+1 by simp]
     exact k4.set 0 _
   ·have h4':(4:Int) < (pre.length:Int)+1:=by omega
    gi_wp2
    refine ⟨((KeepsOthers.setCell _ _ _).trans (KeepsOthers.setCell _ _ _)).from _,⟨rfl,⟨pre,x,rfl,.inr (by omega)⟩, ?_⟩, ?_⟩
    ·exact (k3.other (by omega) _).set 0 _
    ·exact (hB.setCell (p:=⟨w.heap.size+1,0,none⟩) (by simp) _).setCell (p:=⟨w.heap.size,0,none⟩) (Nat.le_refl _) _
 case done =>
  rintro D ys W hD hys ⟨⟨hne,k3,k4,_⟩,hB⟩ hK
  have hv:toB s=decide (0 < ys.length):=by
   rw [hys]
   exact zpz (by rw [← hys];exact (oz hne).1) (by rw [← hys];exact (oz hne).2)
  have HV:=kz hv
  have c3:=k3.cell 0
  have c4:=k4.cell 0
  have f3:=k3.frozen
  have hpl:=(oz hne).2
  clear hys hne hv
  have hdd:decide ((0:Int) < (ys.length:Int))=decide (0 < ys.length):=by simp
  gi_wp2
  rw [hdd] at *
  have hK':=(KeepsOthers.setCell W ⟨w.heap.size,0,none⟩ (.bool (decide (0 < ys.length)))).same D _ hK rfl
  have k3':=k3.set 0 (.bool (decide (0 < ys.length)))
  have hB':=hB.setCell (p:=⟨w.heap.size,0,none⟩) (Nat.le_refl _) (.bool (decide (0 < ys.length)))
  clear hK k3 hB c3 f3
  refine ⟨by simp,.inl ⟨_,_,rfl,run_takeDeferred hK', ?_⟩⟩
  have q3:=k3'.put (.deferred Option.none) hK' rfl
  have c3:=q3.cell 0
  refine ⟨.bool (decide (0 < ys.length)), ?_,by rw [oz HV],hB'.trans (belowK_b (w:=w) (Nat.le_refl _) _ D _ _ (by omega) hK' rfl rfl)⟩
  simp [results,Tryz.f173,go_sem,c3]
 case stop =>
  rintro D c pre W hD hpre ⟨⟨rfl,⟨q,x,rfl,hbx⟩,k3⟩,hB⟩ hK
  obtain ⟨r,hr⟩:=hpre
  have hv:toB s=false:=by
   rcases hbx with hbx | hbx
   ·exact zpy (by rw [← hr];simp) hbx
   ·exact zoo (by rw [← hr];simp;omega)
  have HV:=kz hv
  clear hv hr hbx
  gi_wp2
  refine ⟨by simp,.inl ⟨_,_,rfl,run_takeDeferred hK, ?_⟩⟩
  have q3:=k3.put (.deferred Option.none) hK rfl
  have c3:=q3.cell 0
  refine ⟨.bool false, ?_,by rw [oz HV],hB.trans (belowK_b (w:=w) (Nat.le_refl _) W D _ _ (by omega) hK rfl rfl)⟩
  simp [results,Tryz.f173,go_sem,c3]
theorem zoW (s:ByteArray) (hs:s.size≤maxLen) (w:World):Calls Tryz.prog 173 #[.string s] w fun e W' =>e=.returned (.bool (toB s))∧Below w.heap.size w W' :=
 callsIn_wide.1 (zp3 3 (by omega) s hs w)
end
section
open Go.RowKit Go.Shelf
set_option maxRecDepth 100000
set_option maxHeartbeats 8000000
theorem zbz (c:Nat) (w:World):Calls Tryz.prog 197 #[.int .u8 (c:Int)] w fun e w' =>e=.returned (.bool (zbH c))∧w'=w:=by
 go_enter Tryz.func197,Tryz.ntmps197
 go_wp2
 all_goals (go_ret;refine ⟨zrh ?_,rfl⟩;first | (unfold zbH;rw [Bool.eq_iff_iff];simp;omega) | (unfold zbH;simp_all))
def zp6 (c:Nat):Bool:=zbH c || decide (c=45∨(48≤c∧c≤57))
theorem zf1 (s:ByteArray):zdi s=(decide (1≤s.size∧s.size≤32) && (zbH (bt s 0) && (List.range s.size).all (fun i =>zp6 (bt s i)))):=rfl
theorem zfP (t:ByteArray) (ht:t.size≤maxLen) (w:World):Calls Tryz.prog 171 #[.string t] w fun e w' =>e=.returned (.bool (zdi t))∧w'=w:=by
 unfold maxLen at ht
 by_cases h0:t.size=0
 ·have hv:zdi t=false:=by rw [zf1,decide_eq_false (by omega)];rfl
  rw [hv]
  obtain rfl:=zkJ t h0
  go_enter Tryz.func171,Tryz.ntmps171
  go_wp2
  go_ret
  exact ⟨rfl,rfl⟩
 ·have hp:0 < t.size:=by omega
  have hz':¬ ((t.size:Nat):Int)=0:=by omega
  have hz:(((t.size:Nat):Int) == 0)=false:=beq_eq_false_iff_ne.2 hz'
  by_cases h32:32 < t.size
  ·have hv:zdi t=false:=by rw [zf1,decide_eq_false (by omega)];rfl
   rw [hv]
   have h32':(32:Int) < ((t.size:Nat):Int):=by omega
   go_enter Tryz.func171,Tryz.ntmps171
   go_wp2
   go_ret
   exact ⟨rfl,rfl⟩
  ·have h32':¬ (32:Int) < ((t.size:Nat):Int):=by omega
   have hb0:=zcd t 0 hp
   cases hsm:zbH (bt t 0) with
   | false =>
    have hv:zdi t=false:=by rw [zf1,hsm];simp
    rw [hv]
    rw [hb0] at hsm
    clear hb0
    go_enter Tryz.func171,Tryz.ntmps171
    go_wp2_with (go_at_call 197;refine (zbz _ _).mono ?_;rintro e w' ⟨rfl,rfl⟩)
    go_ret
    exact ⟨rfl,rfl⟩
   | true =>
    have hv:zdi t=(List.range t.size).all (fun i =>zp6 (bt t i)):=by rw [zf1,hsm,decide_eq_true (by omega)];rfl
    have HV:=kz hv
    rw [hb0] at hsm
    clear hb0 hv
    go_enter Tryz.func171,Tryz.ntmps171
    go_wp2_with (go_at_call 197;refine (zbz _ _).mono ?_;rintro e w' ⟨rfl,rfl⟩)
    go_loop [3,4,21] (fun _ _ i => ∃ k:Nat,k≤t.size∧i=.int .i64 k∧Hz (∀ j,j < k→zp6 (bt t j)=true)) (fun _ _ i =>t.size - (intOf i).toNat)
    case atStart =>exact ⟨0,Nat.zero_le _,rfl,kz (fun j hj =>absurd hj (Nat.not_lt_zero _))⟩
    case round =>
     obtain ⟨k,hk,rfl,HK⟩:=hrel
     clear hsm
     by_cases hkt:k < t.size
     ·have hkt':(k:Int) < (t.size:Int):=by omega
      have hi2:((k:Nat):Int).toNat=k:=by omega
      have hbk:=zcd t k hkt
      have HN:Hz (zp6 (bt t k)=true→∀ j,j < k+1→zp6 (bt t j)=true):=kz (fun h j hj =>by
       rcases Nat.lt_or_ge j k with h1 | h1
       ·exact oz HK j h1
       ·obtain rfl:j=k:=by omega
        exact h)
      have HB:Hz (zp6 (bt t k)=false→zdi t=false):=kz (fun h =>by
       rw [oz HV,List.all_eq_false]
       exact ⟨k,List.mem_range.2 hkt,by simp [h]⟩)
      have hin:zp6 (bt t k)=(zbH (bt t k) || decide (bt t k=45∨(48≤bt t k∧bt t k≤57))):=rfl
      rw [hin] at HN HB
      clear hin
      generalize bt t k=b at *
      subst hbk
      cases hsm:zbH ((t[k]'hkt).toNat) with
      | true =>
       have HN2:=kz (oz HN (by rw [hsm];rfl))
       clear HN HB
       go_wp2_with (go_at_call 197;refine (zbz _ _).mono ?_;rintro e w' ⟨rfl,rfl⟩)
       go_round
       case rel =>exact ⟨k+1,by omega,by go_num,HN2⟩
       case measure =>simp [intOf];omega
      | false =>
       rw [hsm] at HN HB
       by_cases h45:(t[k]'hkt).toNat=45
       ·have HN2:=kz (oz HN (by rw [h45];rfl))
        have e45:(((t[k]'hkt).toNat:Int) == 45)=true:=by rw [h45];rfl
        have e45':(((t[k]'hkt).toNat:Int))=45:=by omega
        clear HN HB
        go_wp2_with (go_at_call 197;refine (zbz _ _).mono ?_;rintro e w' ⟨rfl,rfl⟩)
        go_round
        case rel =>exact ⟨k+1,by omega,by go_num,HN2⟩
        case measure =>simp [intOf];omega
       ·have e45:(((t[k]'hkt).toNat:Int) == 45)=false:=by simp;omega
        have e45':¬ (((t[k]'hkt).toNat:Int))=45:=by omega
        by_cases h48:(t[k]'hkt).toNat < 48
        ·have e48:(((t[k]'hkt).toNat:Int)) < 48:=by omega
         have HB2:=kz (oz HB (by simp;omega))
         clear HN HB
         go_wp2_with (go_at_call 197;refine (zbz _ _).mono ?_;rintro e w' ⟨rfl,rfl⟩)
         go_ret
         exact ⟨by rw [oz HB2];rfl,rfl⟩
        ·have e48:¬ (((t[k]'hkt).toNat:Int)) < 48:=by omega
         by_cases h57:57 < (t[k]'hkt).toNat
         ·have e57:57 < (((t[k]'hkt).toNat:Int)):=by omega
          have HB2:=kz (oz HB (by simp;omega))
          clear HN HB
          go_wp2_with (go_at_call 197;refine (zbz _ _).mono ?_;rintro e w' ⟨rfl,rfl⟩)
          go_ret
          exact ⟨by rw [oz HB2];rfl,rfl⟩
         ·have e57:¬ 57 < (((t[k]'hkt).toNat:Int)):=by omega
          have HN2:=kz (oz HN (by simp;omega))
          clear HN HB
          go_wp2_with (go_at_call 197;refine (zbz _ _).mono ?_;rintro e w' ⟨rfl,rfl⟩)
          go_round
          case rel =>exact ⟨k+1,by omega,by go_num,HN2⟩
          case measure =>simp [intOf];omega
     ·have hkt':¬ (k:Int) < (t.size:Int):=by omega
      have HV2:Hz (zdi t=true):=kz (by
       rw [oz HV,List.all_eq_true]
       intro j hj
       exact oz HK j (by have:=List.mem_range.1 hj;omega))
      go_wp2
      go_ret
      exact ⟨by rw [oz HV2];rfl,rfl⟩
set_option maxRecDepth 100000
set_option maxHeartbeats 8000000
theorem zdJ {W:World} {lo:Nat} {a:Option Addr} {zs:List (Int × Int)} (h:RowC W lo a (zaQ zs)) (hl:lo≤W.heap.size):RowP W a zs:=fun h0 =>by
 obtain ⟨g,o,e,hg,hc⟩:=h (by rw [zek];omega)
 exact ⟨g,o,e,by omega,fun j x hx =>⟨hc _ _ (ze4 _ j x hx).1,hc _ _ (ze4 _ j x hx).2⟩⟩
theorem zkg (list:Int) (zs:List (Int × Int)):zhe zs=.tuple #[.int .i64 (spW list zs).2.2,.int .i64 (spW list zs).1]:=by
 unfold spW
 rcases zcm list zs.length (zaP zs) with ⟨k,h1,h2,h3,e⟩ | ⟨h1,e⟩
 ·rw [e,zer zs k h1 h2 h3]
 ·rw [e,ziC zs h1]
theorem zpD (list:Int) (zs:List (Int × Int)):(spW list zs).1≠0→spW list zs=((spW list zs).1,list,(spW list zs).2.2):=by
 intro h
 unfold spW at *
 rcases zcm list zs.length (zaP zs) with ⟨k,h1,h2,h3,e⟩ | ⟨h1,e⟩
 ·rw [e]
 ·rw [e] at h;exact absurd rfl h
theorem zdh (list:Int) (zs:List (Int × Int)) (hz:zs.length≤1000000) (a:Option Addr) (c:Nat) (W:World) (hr:RowP W a zs) :
  Calls Tryz.prog 108 #[.int .i64 list,.slice a zs.length c] W fun e w' =>e=.returned (wrV (spW list zs))∧Below W.heap.size W w':=by
 have hB0:Below W.heap.size W (W.alloc (.cells #[.int .i64 0,.int .i64 0,.int .i64 0] 76)):=(Below.refl _ W).alloc (Nat.le_refl _) _
 have HC:=kz (ziB a c zs (by omega) _ (hr.below hB0))
 have HB:=kz (And.intro hB0 (Blk.new W #[.int .i64 0,.int .i64 0,.int .i64 0] 76))
 have HF:Hz (spW list zs=(0,0,0)∧(spW list zs).1=0∨(spW list zs).1≠0∧spW list zs=((spW list zs).1,list,(spW list zs).2.2)):=kz (by
  by_cases h:(spW list zs).1=0
  ·exact .inl ⟨zbN _ _ _ h,h⟩
  ·exact .inr ⟨h,zpD list zs h⟩)
 rw [zkg list zs] at HC
 clear hr hB0
 generalize spW list zs=x at *
 obtain ⟨y,li,ro⟩:=x
 dsimp only at HC HF
 go_enter Tryz.func108,Tryz.ntmps108
 go_wp2_with fail
 generalize W.alloc (.cells #[.int .i64 0,.int .i64 0,.int .i64 0] 76)=w1 at *
 refine (oz HC).mono ?_
 rintro e w2 ⟨rfl,hb⟩
 have HB2:=kz (And.intro ((oz HB).1.trans (hb.mono (oz HB).1.size)) ((oz HB).2.below hb (oz HB).2.lt))
 have r0:=(oz HB2).2.cell 0
 have r1:=(oz HB2).2.cell 1
 have r2:=(oz HB2).2.cell 2
 have f0:=(oz HB2).2.frozen 0
 have f1:=(oz HB2).2.frozen 1
 have f2:=(oz HB2).2.frozen 2
 clear hb HC HB
 rcases oz HF with ⟨he,h0⟩ | ⟨h0,he⟩
 ·obtain ⟨rfl,hh⟩:=Prod.mk.inj he
  obtain ⟨rfl,rfl⟩:=Prod.mk.inj hh
  clear he hh h0 HF
  go_wp2_with fail
  exact bodyPost_ret (v:=wrV (0,0,0)) (zb8 Tryz.results108 rfl (zcf (oz HB2).2 _ _ _) rfl) rfl ⟨rfl,zaW (oz HB2).1 (Nat.le_refl _) (oz HB2).1.size _ _ _⟩
 ·obtain ⟨_,hh⟩:=Prod.mk.inj he
  obtain ⟨rfl,_⟩:=Prod.mk.inj hh
  have q0:(y == 0)=false:=by simpa using h0
  clear he hh h0 HF
  go_wp2_with fail
  exact bodyPost_ret (v:=wrV (y,li,ro)) (zb8 Tryz.results108 rfl (zcf (oz HB2).2 _ _ _) rfl) rfl ⟨rfl,zaW (oz HB2).1 (Nat.le_refl _) (oz HB2).1.size _ _ _⟩
theorem zqC (nm:ByteArray) (sp:List (Int × Int)):scF (nm,sp)=orE [if (!zdi nm)=true then 38 else 0,(spW 1 sp).1]:=by
 unfold scF
 cases zdi nm
 ·rw [zcW (by decide)];rfl
 ·rw [zcX (by rfl)]
  by_cases h:(spW 1 sp).1=0
  ·rw [zcX h];exact h
  ·rw [zcW h];rfl
theorem zgj (nm:ByteArray) (hnm:nm.size≤maxLen) (sp:List (Int × Int)) (hz:sp.length≤1000000) (p:Option Addr) (d:Nat) (W:World) (hr:RowP W p sp) :
  Calls Tryz.prog 107 #[.agg #[.string nm,.slice p sp.length d]] W fun e w' =>e=.returned (.int .i64 (scF (nm,sp)))∧Below W.heap.size W w':=by
 have hB0:Below W.heap.size W (W.alloc (.cells #[.string nm,.slice p sp.length d] 109)):=(Below.refl _ W).alloc (Nat.le_refl _) _
 have bA:=Blk.new W #[.string nm,.slice p sp.length d] 109
 have HC:=kz (ziB p d sp (by omega) _ (hr.below hB0))
 have HB:=kz (And.intro hB0 bA)
 have a0:=bA.cell 0
 have a1:=bA.cell 1
 rw [zkg 1 sp] at HC
 rw [zqC]
 have HI:=kz (fun w =>zfP nm hnm w)
 clear hr hB0 bA
 generalize (spW 1 sp).1=y at *
 generalize (spW 1 sp).2.2=ro at *
 generalize zdi nm=b at *
 go_enter Tryz.func107,Tryz.ntmps107
 go_wp2_with fail
 generalize W.alloc (.cells #[.string nm,.slice p sp.length d] 109)=w1 at *
 refine (oz HC).mono ?_
 rintro e w2 ⟨rfl,hb⟩
 have HB2:=kz (And.intro ((oz HB).1.trans (hb.mono (oz HB).1.size)) ((oz HB).2.below hb (oz HB).2.lt))
 have b0:=(oz HB2).2.cell 0
 clear hb HC HB a0 a1
 go_wp2_with fail
 refine (oz HI _).mono ?_
 rintro e w3 ⟨rfl,rfl⟩
 cases b with
 | false =>
  go_wp2_with fail
  refine (zaF true 38 _).mono ?_
  rw [if_pos rfl]
  rintro e w3 ⟨rfl,rfl⟩
  go_wp2_with fail
  refine (zbo [38,y] (by simp) _ 0 _ _ (zjc _ _ _ _ _ (by first | rfl | simp))).mono ?_
  rintro e w3 ⟨rfl,rfl⟩
  go_wp2_with fail
  go_ret
  exact ⟨rfl,zcv (oz HB2).1 (oz HB2).1.size _⟩
 | true =>
  go_wp2_with fail
  refine (zaF false 38 _).mono ?_
  rw [if_neg (by decide)]
  rintro e w3 ⟨rfl,rfl⟩
  go_wp2_with fail
  refine (zbo [0,y] (by simp) _ 0 _ _ (zjc _ _ _ _ _ (by first | rfl | simp))).mono ?_
  rintro e w3 ⟨rfl,rfl⟩
  go_wp2_with fail
  go_ret
  exact ⟨rfl,zcv (oz HB2).1 (oz HB2).1.size _⟩
theorem zqJ (r:Int) (s:ByteArray):mpF (r,s)=orE [if ([r] : List Int).all zan then 0 else 12,if (!toB s)=true then 35 else 0]:=by
 unfold mpF
 simp only [List.all_cons,List.all_nil,Bool.and_true]
 cases zan r
 ·rw [zcW (by decide)];rfl
 ·rw [zcX (by rfl)]
  cases toB s
  ·rw [zcW (by decide)];rfl
  ·rw [zcX (by rfl)];rfl
def mpD (B:Nat) (r:Int) (s:ByteArray) (b:Bool) (e1:Int) (e2:Int):Nat→Value→World→Prop
 | 0,v,w =>v=.pointer (some ⟨B,0,none⟩)
 | 1,v,w =>v=.int .i32 r
 | 2,v,w => ∃ g,v=.slice (some ⟨g,0,none⟩) 1 1∧RnC w w.heap.size (some ⟨g,0,none⟩) [r]
 | 3,v,w =>v=.int .i64 e1
 | 4,v,w =>v=.pointer (some ⟨B,1,none⟩)
 | 5,v,w =>v=.string s
 | 6,v,w =>v=.bool b
 | 7,v,w =>v=.bool (!b)
 | 8,v,w =>v=.int .i64 e2
 | 9,v,w => ∃ g,v=.slice (some ⟨g,0,none⟩) 2 2∧Blk w g #[.int .i64 e1,.int .i64 e2] 74
 | 10,v,w =>v=.int .i64 (orE [e1,e2])
 | _,v,w =>True
def zrz (j:Nat):Bool:=false
theorem zd9 {B:Nat} {r:Int} {s:ByteArray} {b:Bool} {e1:Int} {e2:Int} {w w':World} (hb:Below w.heap.size w w'):∀ (j:Nat) (v:Value),mpD B r s b e1 e2 j v w→mpD B r s b e1 e2 j v w'
 | 0,v,h =>h
 | 1,v,h =>h
 | 2,v,h =>let ⟨g,e,h2⟩:=h; ⟨g,e,h2.below hb⟩
 | 3,v,h =>h
 | 4,v,h =>h
 | 5,v,h =>h
 | 6,v,h =>h
 | 7,v,h =>h
 | 8,v,h =>h
 | 9,v,h =>let ⟨g,e,h2⟩:=h; ⟨g,e,h2.below hb h2.lt⟩
 | 10,v,h =>h
 | _+11,v,h =>h
theorem zea {B:Nat} {r:Int} {s:ByteArray} {b:Bool} {e1:Int} {e2:Int} {w:World} (j:Nat) (v:Value) (hm:zrz j=true) (h:mpD B r s b e1 e2 j v w):∀ b,v.ownBlock=some b→b < w.heap.size:=by
 cases hm
theorem ziQ (r:Int) (s:ByteArray) (hs:s.size≤maxLen) (W:World):Calls Tryz.prog 114 #[.agg #[.int .i32 r,.string s]] W fun e w' =>e=.returned (.int .i64 (mpF (r,s)))∧Below W.heap.size W w':=by
 have hmx:Tryz.prog.follows .mixedOrders=true:=by kernel_rfl
 have hB0:Below W.heap.size W (W.alloc (.cells #[.int .i32 r,.string s] 119)).drew:=((Below.refl _ W).alloc (Nat.le_refl _) _).trans ⟨rfl,rfl,rfl,Nat.le_refl _,fun _ _ =>rfl⟩
 have bA:Blk (W.alloc (.cells #[.int .i32 r,.string s] 119)).drew W.heap.size #[.int .i32 r,.string s] 119:=Blk.new W #[.int .i32 r,.string s] 119
 have HF:Hz (∀ w1,Below (W.alloc (.cells #[.int .i32 r,.string s] 119)).drew.heap.size (W.alloc (.cells #[.int .i32 r,.string s] 119)).drew w1→Blk w1 W.heap.size #[.int .i32 r,.string s] 119):=kz (fun w1 h =>bA.below h bA.lt)
 have HB:=kz hB0
 have HI:=kz (fun w =>zoW s hs w)
 clear hB0 bA
 rw [zqJ]
 generalize toB s=b at *
 obtain ⟨e1,he1⟩:∃ e1:Int,(if ([r] : List Int).all zan then 0 else 12)=e1:=⟨_,rfl⟩
 obtain ⟨e2,he2⟩:∃ e2:Int,(if (!b)=true then 35 else 0)=e2:=⟨_,rfl⟩
 rw [he1,he2]
 have HE:=kz he1
 have HE2:=kz he2
 clear he1 he2
 go_enter Tryz.func114,Tryz.ntmps114
 go_wp2_with fail
 generalize W.alloc (.cells #[.int .i32 r,.string s] 119)=w0 at *
 refine zao hmx 11 (by decide) (by kernel_rfl) (by kernel_rfl) (fun l a w => ∃ U:Nat→Value,a = { tmps:=#[.agg #[.int .i32 r,.string s],.pointer (some ⟨W.heap.size,0,none⟩),.int .i64 0,U 0,U 1,U 2,U 3,U 4,U 5,U 6,U 7,U 8,U 9,U 10],defers := [] }∧RgJ (w0.drew) (w0.drew.heap.size) (mpD W.heap.size r s b e1 e2) zrz l U w) ⟨fun _ =>undef,rfl,RgJ.start _ _ (Nat.le_refl _)⟩ ?_ ?_
 ·rintro l a w i ⟨U,rfl,hJ⟩ hl hi hif
  have h0:=(mem_ready.1 hi).1
  have hlt:=zc9 hl h0
  have HJ:=kz hJ
  clear hJ hl
  replace hlt:i < 12:=hlt
  obtain rfl | rfl | rfl | rfl | rfl | rfl | rfl | rfl | rfl | rfl | rfl:i=0∨i=1∨i=2∨i=3∨i=4∨i=5∨i=6∨i=7∨i=8∨i=9∨i=10:=by omega
  ·refine wpOp_step rfl (fun K hK =>?_)
   clear hlt hif
   go_simp
   exact hK _ _ ⟨zaa U 0 _,rfl,(oz HJ).put 0 _ h0 (Below.refl _ _) (zd9 (Below.refl _ _)) rfl zea (fun h =>absurd h (by decide))⟩
  ·refine wpOp_step rfl (fun K hK =>?_)
   clear hlt hif
   have d0:U 0=.pointer (some ⟨W.heap.size,0,none⟩):=(oz HJ).val 0 (zab hi 0 (by kernel_rfl))
   have q0:=(oz HF w (oz HJ).bel).cell 0
   go_simp
   exact hK _ _ ⟨zaa U 1 _,(by rw [zac d0];rfl),(oz HJ).put 1 _ h0 (Below.refl _ _) (zd9 (Below.refl _ _)) rfl zea (fun h =>absurd h (by decide))⟩
  ·refine wpOp_step rfl (fun K hK =>?_)
   clear hlt hif
   have d1:U 1=.int .i32 r:=(oz HJ).val 1 (zab hi 1 (by kernel_rfl))
   go_simp
   exact hK _ _ ⟨zaa U 2 _,(by rw [zac d1];rfl),(oz HJ).put 2 _ h0 ((Below.refl _ _).alloc (Nat.le_refl _) _) (zd9 ((Below.refl _ _).alloc (Nat.le_refl _) _)) ⟨_,rfl,zeA w _ r _ rfl⟩ zea (fun h =>absurd h (by decide))⟩
  ·refine wpOp_step rfl (fun K hK =>?_)
   clear hlt hif
   obtain ⟨g2,d2,h2⟩:=(oz HJ).val 2 (zab hi 2 (by kernel_rfl))
   go_simp
   refine (zdx [r] (by simp) _ _ _ h2).mono ?_
   rw [oz HE]
   rintro e w' ⟨rfl,hb⟩
   exact hK _ _ ⟨zaa U 3 _,(by rw [zac d2];rfl),(oz HJ).put 3 _ h0 hb (zd9 hb) rfl zea (fun h =>absurd h (by decide))⟩
  ·refine wpOp_step rfl (fun K hK =>?_)
   clear hlt hif
   go_simp
   exact hK _ _ ⟨zaa U 4 _,rfl,(oz HJ).put 4 _ h0 (Below.refl _ _) (zd9 (Below.refl _ _)) rfl zea (fun h =>absurd h (by decide))⟩
  ·refine wpOp_step rfl (fun K hK =>?_)
   clear hlt hif
   have d4:U 4=.pointer (some ⟨W.heap.size,1,none⟩):=(oz HJ).val 4 (zab hi 4 (by kernel_rfl))
   have q1:=(oz HF w (oz HJ).bel).cell 1
   go_simp
   exact hK _ _ ⟨zaa U 5 _,(by rw [zac d4];rfl),(oz HJ).put 5 _ h0 (Below.refl _ _) (zd9 (Below.refl _ _)) rfl zea (fun h =>absurd h (by decide))⟩
  ·refine wpOp_step rfl (fun K hK =>?_)
   clear hlt hif
   have d5:U 5=.string s:=(oz HJ).val 5 (zab hi 5 (by kernel_rfl))
   go_simp
   refine (oz HI _).mono ?_
   rintro e w' ⟨rfl,hb⟩
   exact hK _ _ ⟨zaa U 6 _,(by rw [zac d5];rfl),(oz HJ).put 6 _ h0 hb (zd9 hb) rfl zea (fun h =>absurd h (by decide))⟩
  ·refine wpOp_step rfl (fun K hK =>?_)
   clear hlt hif
   have d6:U 6=.bool b:=(oz HJ).val 6 (zab hi 6 (by kernel_rfl))
   go_simp
   exact hK _ _ ⟨zaa U 7 _,(by rw [zac d6];rfl),(oz HJ).put 7 _ h0 (Below.refl _ _) (zd9 (Below.refl _ _)) rfl zea (fun h =>absurd h (by decide))⟩
  ·refine wpOp_step rfl (fun K hK =>?_)
   clear hlt hif
   have d7:U 7=.bool (!b):=(oz HJ).val 7 (zab hi 7 (by kernel_rfl))
   go_simp
   refine (zaF (!b) 35 _).mono ?_
   rw [oz HE2]
   rintro e w' ⟨rfl,rfl⟩
   exact hK _ _ ⟨zaa U 8 _,(by rw [zac d7];rfl),(oz HJ).put 8 _ h0 (Below.refl _ _) (zd9 (Below.refl _ _)) rfl zea (fun h =>absurd h (by decide))⟩
  ·refine wpOp_step rfl (fun K hK =>?_)
   clear hlt hif
   have d3:U 3=.int .i64 e1:=(oz HJ).val 3 (zab hi 3 (by kernel_rfl))
   have d8:U 8=.int .i64 e2:=(oz HJ).val 8 (zab hi 8 (by kernel_rfl))
   go_simp
   exact hK _ _ ⟨zaa U 9 _,(by rw [zac d3,zac d8];rfl),(oz HJ).put 9 _ h0 ((Below.refl _ _).alloc (Nat.le_refl _) _) (zd9 ((Below.refl _ _).alloc (Nat.le_refl _) _)) ⟨_,rfl,Blk.new w _ _⟩ zea (fun h =>absurd h (by decide))⟩
  ·refine wpOp_step rfl (fun K hK =>?_)
   clear hlt hif
   obtain ⟨g9,d9,h9⟩:=(oz HJ).val 9 (zab hi 9 (by kernel_rfl))
   go_simp
   refine (zbo [e1,e2] (by simp) _ 0 _ _ (zfd h9)).mono ?_
   rintro e w' ⟨rfl,rfl⟩
   exact hK _ _ ⟨zaa U 10 _,(by rw [zac d9];rfl),(oz HJ).put 10 _ h0 (Below.refl _ _) (zd9 (Below.refl _ _)) rfl zea (fun h =>absurd h (by decide))⟩
 ·rintro l a w ⟨U,rfl,hJ⟩ hall
  have d10:U 10=.int .i64 (orE [e1,e2]):=hJ.val 10 (hall 10 (by decide) (by decide))
  have HBJ:=kz ((oz HB).trans (hJ.bel.mono (oz HB).size))
  clear hJ hall
  refine wpOp_step rfl (fun K hK =>?_)
  go_simp
  refine hK _ _ ?_
  clear hK
  go_wp2_with fail
  go_ret
  exact ⟨rfl,oz HBJ⟩
def noX:Nat→Prop:=fun _ =>False
def zmP (x:ByteArray × List (Int × Int)):Int:=if 1024 < x.2.length then 4 else 0
theorem zpX (T:TV):zaG 1 T.sc.length (fun i =>if 1024 < (T.sc.getD i (ByteArray.empty,[])).2.length then 4 else 0)=zaf 1 T.sc sc0 zmP:=rfl
theorem zcB {α : Type} {l:List α} {i:Nat} {x : α} (d : α) (h:l[i]?=some x):l.getD i d=x:=by rw [List.getD_eq_getElem?_getD,h];rfl
theorem zh7:∀ args w,(callFunc 105 args).run Tryz.prog w=.ok (.enter 105 args) w:=enters_of Tryz.func105 (by kernel_rfl) rfl
theorem zgG:∀ args w,(callFunc 107 args).run Tryz.prog w=.ok (.enter 107 args) w:=enters_of Tryz.func107 (by kernel_rfl) rfl
theorem zh9:∀ args w,(callFunc 110 args).run Tryz.prog w=.ok (.enter 110 args) w:=enters_of Tryz.func110 (by kernel_rfl) rfl
theorem zh8:∀ args w,(callFunc 112 args).run Tryz.prog w=.ok (.enter 112 args) w:=enters_of Tryz.func112 (by kernel_rfl) rfl
theorem ziW:∀ args w,(callFunc 114 args).run Tryz.prog w=.ok (.enter 114 args) w:=enters_of Tryz.func114 (by kernel_rfl) rfl
def ScR (W:World) (sc:List (ByteArray × List (Int × Int))) (us:List Value):Prop := ∀ (j:Nat) (x:ByteArray × List (Int × Int)) (u:Value),sc[j]?=some x→us[j]?=some u→∃ b d,u=.slice b x.2.length d∧RowC W W.heap.size b (zaQ x.2)
theorem ScR.sl {W:World} {sc:List (ByteArray × List (Int × Int))} {us:List Value} (h:ScR W sc us) (hus:us.length=sc.length):∀ (j:Nat) (u:Value),us[j]?=some u→∃ p n d,u=Value.slice p n d:=fun j u hu =>by
 have hj:=(List.getElem?_eq_some_iff.1 hu).1
 obtain ⟨b,d,e,_⟩:=h j _ u (List.getElem?_eq_getElem (by omega)) hu
 exact ⟨b,_,d,e⟩
theorem ScR.below {W w:World} {sc:List (ByteArray × List (Int × Int))} {us:List Value} (h:ScR W sc us) (hb:Below W.heap.size W w):ScR w sc us:=fun j x u hx hu =>by
 obtain ⟨b,d,e,hr⟩:=h j x u hx hu
 exact ⟨b,d,e,hr.below hb hb.size⟩
theorem zqa (sc:List (ByteArray × List (Int × Int))) (us:List Value) (hus:us.length=sc.length) (hn:sc.length≤1000000) (a:Option Addr) (c:Nat) (W:World) (hr:RowC W W.heap.size a (zbG sc us)) (hs:ScR W sc us) :
  Calls Tryz.prog 104 #[.int .i64 1,.slice a sc.length c,.func (.func 105) #[] #[]] W fun e w' =>e=.returned (wrV (zaf 1 sc sc0 zmP))∧Below W.heap.size W w' :=
 (zc1 1 sc us hus (hs.sl hus) hn a c 105 #[] zh7 (fun i =>zmP (sc.getD i sc0)) noX (fun _ _ =>True) W.heap.size W (Nat.le_refl _) (fun b h =>h.elim) hr trivial (fun _ _ _ _ _ =>trivial) (fun i x u w hx hu hk _ =>by
  obtain ⟨b,d,rfl,_⟩:=hs i x u hx hu
  show Calls Tryz.prog _ _ w fun e w' =>e=.returned (.int .i64 (zmP (sc.getD i sc0)))∧_
  rw [zcB sc0 hx]
  exact (zit x.1 b x.2.length d w).mono (fun e w' ⟨he,hb⟩ =>⟨he,trivial,zaw hb noX⟩))).mono (fun e w' ⟨he,hk⟩ =>⟨he,hk.below⟩)
theorem zm7 (sc:List (ByteArray × List (Int × Int))) (us:List Value) (hus:us.length=sc.length) (hn:sc.length≤1000000) (hz:∀ x ∈ sc,x.1.size≤maxLen∧x.2.length≤1000000) (a:Option Addr) (c:Nat) (W:World) (hr:RowC W W.heap.size a (zbG sc us)) (hs:ScR W sc us) :
  Calls Tryz.prog 104 #[.int .i64 1,.slice a sc.length c,.func (.func 107) #[] #[]] W fun e w' =>e=.returned (wrV (zaf 1 sc sc0 scF))∧Below W.heap.size W w' :=
 (zc1 1 sc us hus (hs.sl hus) hn a c 107 #[] zgG (fun i =>scF (sc.getD i sc0)) noX (fun _ _ =>True) W.heap.size W (Nat.le_refl _) (fun b h =>h.elim) hr trivial (fun _ _ _ _ _ =>trivial) (fun i x u w hx hu hk _ =>by
  obtain ⟨b,d,rfl,hrx⟩:=hs i x u hx hu
  show Calls Tryz.prog _ _ w fun e w' =>e=.returned (.int .i64 (scF (sc.getD i sc0)))∧_
  rw [zcB sc0 hx]
  have hm:=hz x (List.mem_of_getElem? hx)
  exact (zgj x.1 hm.1 x.2 hm.2 b d w (zdJ (hrx.below hk.below hk.size) (Nat.le_refl _))).mono (fun e w' ⟨he,hb⟩ =>⟨he,trivial,zaw hb noX⟩))).mono (fun e w' ⟨he,hk⟩ =>⟨he,hk.below⟩)
theorem zp9 (zs:List (Int × Int)) (hn:zs.length≤1000000) (a:Option Addr) (c:Nat) (W:World) (hr:RowC W W.heap.size a (zdk zs)) :
  Calls Tryz.prog 109 #[.int .i64 3,.slice a zs.length c,.func (.func 110) #[] #[]] W fun e w' =>e=.returned (wrV (zaf 3 zs ma0 maF))∧Below W.heap.size W w' :=
 (zdP 3 zs hn a c 110 #[] zh9 (fun i =>maF (zs.getD i ma0)) noX (fun _ _ =>True) W.heap.size W (Nat.le_refl _) (fun b h =>h.elim) hr trivial (fun _ _ _ _ _ =>trivial) (fun i x w hx hk _ =>by
  show Calls Tryz.prog _ _ w fun e w' =>e=.returned (.int .i64 (maF (zs.getD i ma0)))∧_
  rw [zcB ma0 hx]
  exact (zhY x.1 x.2 w).mono (fun e w' ⟨he,hb⟩ =>⟨he,trivial,zaw hb noX⟩))).mono (fun e w' ⟨he,hk⟩ =>⟨he,hk.below⟩)
theorem zp8 (zs:List (Int × Int × Int)) (hn:zs.length≤1000000) (a:Option Addr) (c:Nat) (W:World) (hr:RowC W W.heap.size a (zcL zs)) :
  Calls Tryz.prog 111 #[.int .i64 4,.slice a zs.length c,.func (.func 112) #[] #[]] W fun e w' =>e=.returned (wrV (zaf 4 zs pr0 prF))∧Below W.heap.size W w' :=
 (zdO 4 zs hn a c 112 #[] zh8 (fun i =>prF (zs.getD i pr0)) noX (fun _ _ =>True) W.heap.size W (Nat.le_refl _) (fun b h =>h.elim) hr trivial (fun _ _ _ _ _ =>trivial) (fun i x w hx hk _ =>by
  show Calls Tryz.prog _ _ w fun e w' =>e=.returned (.int .i64 (prF (zs.getD i pr0)))∧_
  rw [zcB pr0 hx]
  exact (zhT x.1 x.2.1 x.2.2 w).mono (fun e w' ⟨he,hb⟩ =>⟨he,trivial,zaw hb noX⟩))).mono (fun e w' ⟨he,hk⟩ =>⟨he,hk.below⟩)
theorem zpk (list:Int) (zs:List (Int × ByteArray)) (hn:zs.length≤1000000) (hz:∀ x ∈ zs,x.2.size≤maxLen) (a:Option Addr) (c:Nat) (W:World) (hr:RowC W W.heap.size a (zbl zs)) :
  Calls Tryz.prog 113 #[.int .i64 list,.slice a zs.length c,.func (.func 114) #[] #[]] W fun e w' =>e=.returned (wrV (zaf list zs mp0 mpF))∧Below W.heap.size W w' :=
 (zeg list zs hn a c 114 #[] ziW (fun i =>mpF (zs.getD i mp0)) noX (fun _ _ =>True) W.heap.size W (Nat.le_refl _) (fun b h =>h.elim) hr trivial (fun _ _ _ _ _ =>trivial) (fun i x w hx hk _ =>by
  show Calls Tryz.prog _ _ w fun e w' =>e=.returned (.int .i64 (mpF (zs.getD i mp0)))∧_
  rw [zcB mp0 hx]
  exact (ziQ x.1 x.2 (hz x (List.mem_of_getElem? hx)) w).mono (fun e w' ⟨he,hb⟩ =>⟨he,trivial,zaw hb noX⟩))).mono (fun e w' ⟨he,hk⟩ =>⟨he,hk.below⟩)
end
end Go.Proofs.YtmemedpoaocdkaaGreat
