/- Texts of this claim, one behind the other. -/
import Derived.Test.YthchopdfmchpkaaGreatM12
namespace Go.Proofs.YthchopdfmchpkaaGreat
open Go.RowKit Go.Shelf
set_option linter.unusedVariables false
set_option maxRecDepth 100000
set_option maxHeartbeats 8000000
theorem YB {W:World} {lo:Nat} {a:Option Addr} {zs:List (Int × Int)} (h:RowC W lo a (zM zs)) (hl:lo≤W.heap.size):RowP W a zs:=fun h0 =>by
 obtain ⟨g,o,e,hg,hc⟩:=h (by rw [Zv];omega);exact ⟨g,o,e,by omega,fun j x hx =>⟨hc _ _ (Z5 _ j x hx).1,hc _ _ (Z5 _ j x hx).2⟩⟩
theorem zc7 (list:Int) (zs:List (Int × Int)):Ks zs=.tuple #[.int .i64 (spW list zs).2.2,.int .i64 (spW list zs).1]:=by
 unfold spW;rcases YP list zs.length (zT zs) with ⟨k,h1,h2,h3,e⟩ | ⟨h1,e⟩
 ·rw [e,ZE zs k h1 h2 h3]
 ·rw [e,zbb zs h1]
theorem ziW (list:Int) (zs:List (Int × Int)):(spW list zs).1≠0→spW list zs=((spW list zs).1,list,(spW list zs).2.2):=by
 intro h;unfold spW at *;rcases YP list zs.length (zT zs) with ⟨k,h1,h2,h3,e⟩ | ⟨h1,e⟩
 ·rw [e]
 ·rw [e] at h;exact absurd rfl h
theorem Ys (list:Int) (zs:List (Int × Int)) (hz:zs.length≤1000000) (a:Option Addr) (c:Nat) (W:World) (hr:RowP W a zs) :
  Calls Tryz.prog 126 #[.int .i64 list,.slice a zs.length c] W fun e w' =>e=.returned (wrV (spW list zs))∧Below W.heap.size W w':=by
 have hB0:Below W.heap.size W (W.alloc (.cells #[.int .i64 0,.int .i64 0,.int .i64 0] 89)):=(Below.refl _ W).alloc zD _;have HC:=kz (zba a c zs (by omega) _ (hr.below hB0));have HB:=kz (yB hB0 (Blk.new W #[.int .i64 0,.int .i64 0,.int .i64 0] 89));have HF:Hz (spW list zs=(0,0,0)∧(spW list zs).1=0∨(spW list zs).1≠0∧spW list zs=((spW list zs).1,list,(spW list zs).2.2)):=kz (by
  by_cases h:(spW list zs).1=0
  ·exact .inl ⟨qN _ _ _ h,h⟩
  ·exact .inr ⟨h,ziW list zs h⟩)
 rw [zc7 list zs] at HC;clear hr hB0;generalize spW list zs=x at *;obtain ⟨y,li,ro⟩:=x;dsimp only at HC HF;go_enter Tryz.func126,Tryz.ntmps126;go_wp2_with fail
 generalize W.alloc _=w1 at *;refine (oz HC).mono ?_;rintro e w2 ⟨rfl,hb⟩;have HB2:=kz (yB ((oz HB).1.trans (hb.mono (oz HB).1.size)) ((oz HB).2.below hb (oz HB).2.lt));have r0:=(oz HB2).2.cell 0;have r1:=(oz HB2).2.cell 1;have r2:=(oz HB2).2.cell 2;have f0:=(oz HB2).2.frozen 0;have f1:=(oz HB2).2.frozen 1;have f2:=(oz HB2).2.frozen 2;clear hb HC HB;rcases oz HF with ⟨he,h0⟩ | ⟨h0,he⟩
 ·obtain ⟨rfl,hh⟩:=Prod.mk.inj he;obtain ⟨rfl,rfl⟩:=Prod.mk.inj hh;clear he hh h0 HF;go_wp2_with fail
  exact XS (v:=wrV (0,0,0)) (jA Tryz.results126 rfl (jG (oz HB2).2 _ _ _) rfl) rfl ⟨rfl,zY (oz HB2).1 zD (oz HB2).1.size _ _ _⟩
 ·obtain ⟨_,hh⟩:=Prod.mk.inj he;obtain ⟨rfl,_⟩:=Prod.mk.inj hh;have q0:(y == 0)=false:=by simpa using h0
  clear he hh h0 HF;go_wp2_with fail
  exact XS (v:=wrV (y,li,ro)) (jA Tryz.results126 rfl (jG (oz HB2).2 _ _ _) rfl) rfl ⟨rfl,zY (oz HB2).1 zD (oz HB2).1.size _ _ _⟩
theorem zkd (nm:ByteArray) (sp:List (Int × Int)):scF (nm,sp)=orE [if (!XO nm)=true then 38 else 0,(spW 1 sp).1]:=by
 unfold scF;cases XO nm
 ·rw [X1 (by decide)];rfl
 ·rw [X2 (by rfl)];by_cases h:(spW 1 sp).1=0
  ·rw [X2 h];exact h
  ·rw [X1 h];rfl
theorem Kl (nm:ByteArray) (hnm:nm.size≤maxLen) (sp:List (Int × Int)) (hz:sp.length≤1000000) (p:Option Addr) (d:Nat) (W:World) (hr:RowP W p sp) :
  Calls Tryz.prog 125 #[.agg #[.string nm,.slice p sp.length d]] W fun e w' =>e=.returned (.int .i64 (scF (nm,sp)))∧Below W.heap.size W w':=by
 have hB0:Below W.heap.size W (W.alloc (.cells #[.string nm,.slice p sp.length d] 96)):=(Below.refl _ W).alloc zD _;have bA:=Blk.new W #[.string nm,.slice p sp.length d] 96;have HC:=kz (zba p d sp (by omega) _ (hr.below hB0));have HB:=kz (yB hB0 bA);have a0:=bA.cell 0;have a1:=bA.cell 1;rw [zc7 1 sp] at HC;rw [zkd];have HI:=kz (fun w =>Qz nm hnm w);clear hr hB0 bA;generalize (spW 1 sp).1=y at *;generalize (spW 1 sp).2.2=ro at *;generalize XO nm=b at *;go_enter Tryz.func125,Tryz.ntmps125;go_wp2_with fail
 generalize W.alloc _=w1 at *;refine (oz HC).mono ?_;rintro e w2 ⟨rfl,hb⟩;have HB2:=kz (yB ((oz HB).1.trans (hb.mono (oz HB).1.size)) ((oz HB).2.below hb (oz HB).2.lt));have b0:=(oz HB2).2.cell 0;clear hb HC HB a0 a1;go_wp2_with fail
 refine (oz HI _).mono ?_;rintro e w3 ⟨rfl,rfl⟩;cases b with
 | false =>
  go_wp2_with fail
  refine (zK true 38 _).mono ?_;rw [if_pos rfl];rintro e w3 ⟨rfl,rfl⟩;go_wp2_with fail
  refine (jK [38,y] (by simp) _ 0 _ _ (zbQ _ _ _ _ _ (by first | rfl | simp))).mono ?_;rintro e w3 ⟨rfl,rfl⟩;go_wp2_with fail
  go_ret;exact ⟨rfl,XE (oz HB2).1 (oz HB2).1.size _⟩
 | true =>
  go_wp2_with fail
  refine (zK false 38 _).mono ?_;rw [if_neg (by decide)];rintro e w3 ⟨rfl,rfl⟩;go_wp2_with fail
  refine (jK [0,y] (by simp) _ 0 _ _ (zbQ _ _ _ _ _ (by first | rfl | simp))).mono ?_;rintro e w3 ⟨rfl,rfl⟩;go_wp2_with fail
  go_ret;exact ⟨rfl,XE (oz HB2).1 (oz HB2).1.size _⟩
theorem zkk (r:Int) (s:ByteArray):mpF (r,s)=orE [if ([r] : List Int).all zm then 0 else 12,if (!toB s)=true then 35 else 0]:=by
 unfold mpF;simp only [List.all_cons,List.all_nil,Bool.and_true];cases zm r
 ·rw [X1 (by decide)];rfl
 ·rw [X2 (by rfl)];cases toB s
  ·rw [X1 (by decide)];rfl
  ·rw [X2 (by rfl)];rfl
def mpD (B:Nat) (r:Int) (s:ByteArray) (b:Bool) (e1 e2:Int):Nat→Value→World→Prop
 | 0,v,w =>v=.pointer (some ⟨B,0,none⟩)
 | 1,v,w =>v=.int .i32 r
 | 2,v,w => ∃ g,v=.slice (some ⟨g,0,none⟩) 1 1∧RnC w w.heap.size (some ⟨g,0,none⟩) [r]
 | 3,v,w =>v=.int .i64 e1
 | 4,v,w =>v=.pointer (some ⟨B,1,none⟩)
 | 5,v,w =>v=.string s
 | 6,v,w =>v=.bool b
 | 7,v,w =>v=.bool (!b)
 | 8,v,w =>v=.int .i64 e2
 | 9,v,w => ∃ g,v=.slice (some ⟨g,0,none⟩) 2 2∧Blk w g #[.int .i64 e1,.int .i64 e2] 87
 | 10,v,w =>v=.int .i64 (orE [e1,e2])
 | _,v,w =>True
def zkT (j:Nat):Bool:=false
theorem YZ {B:Nat} {r:Int} {s:ByteArray} {b:Bool} {e1 e2:Int} {w w':World} (hb:Below w.heap.size w w'):∀ (j:Nat) (v:Value),mpD B r s b e1 e2 j v w→mpD B r s b e1 e2 j v w'
 | 0,v,h =>h
 | 1,v,h =>h
 | 2,v,h =>let ⟨g,e,h2⟩:=h; ⟨g,e,h2.below hb⟩
 | 3,v,h =>h
 | 4,v,h =>h
 | 5,v,h =>h
 | 6,v,h =>h
 | 7,v,h =>h
 | 8,v,h =>h
 | 9,v,h =>let ⟨g,e,h2⟩:=h; ⟨g,e,h2.below hb h2.lt⟩
 | 10,v,h =>h
 | _+11,v,h =>h
theorem Y0 {B:Nat} {r:Int} {s:ByteArray} {b:Bool} {e1 e2:Int} {w:World} (j:Nat) (v:Value) (hm:zkT j=true) (h:mpD B r s b e1 e2 j v w):∀ b,v.ownBlock=some b→b < w.heap.size:=by
 cases hm
theorem zbB (r:Int) (s:ByteArray) (hs:s.size≤maxLen) (W:World):Calls Tryz.prog 132 #[.agg #[.int .i32 r,.string s]] W fun e w' =>e=.returned (.int .i64 (mpF (r,s)))∧Below W.heap.size W w':=by
 have hmx:=zdA
 have hB0:Below W.heap.size W (W.alloc (.cells #[.int .i32 r,.string s] 102)).drew:=((Below.refl _ W).alloc zD _).trans ⟨rfl,rfl,rfl,zD,fun _ _ =>rfl⟩;have bA:Blk (W.alloc (.cells #[.int .i32 r,.string s] 102)).drew W.heap.size #[.int .i32 r,.string s] 102:=Blk.new W #[.int .i32 r,.string s] 102;have HF:Hz (∀ w1,Below (W.alloc (.cells #[.int .i32 r,.string s] 102)).drew.heap.size (W.alloc (.cells #[.int .i32 r,.string s] 102)).drew w1→Blk w1 W.heap.size #[.int .i32 r,.string s] 102):=kz (fun w1 h =>bA.below h bA.lt);have HB:=kz hB0;have HI:=kz (fun w =>zhV s hs w);clear hB0 bA;rw [zkk];generalize toB s=b at *;obtain ⟨e1,he1⟩:∃ e1:Int,(if ([r] : List Int).all zm then 0 else 12)=e1:=⟨_,rfl⟩;obtain ⟨e2,he2⟩:∃ e2:Int,(if (!b)=true then 35 else 0)=e2:=⟨_,rfl⟩;rw [he1,he2];have HE:=kz he1;have HE2:=kz he2;clear he1 he2;go_enter Tryz.func132,Tryz.ntmps132;go_wp2_with fail
 generalize W.alloc _=w0 at *;refine zn hmx 11 (by decide) (by kernel_rfl) (by kernel_rfl) (fun l a w => ∃ U:Nat→Value,a = { tmps:=#[.agg #[.int .i32 r,.string s],.pointer (some ⟨W.heap.size,0,none⟩),.int .i64 0,U 0,U 1,U 2,U 3,U 4,U 5,U 6,U 7,U 8,U 9,U 10],defers := [] }∧RgJ (w0.drew) (w0.drew.heap.size) (mpD W.heap.size r s b e1 e2) zkT l U w) ⟨fun _ =>undef,rfl,RgJ.start _ _ zD⟩ ?_ ?_
 ·rintro l a w i ⟨U,rfl,hJ⟩ hl hi hif;have h0:=(mem_ready.1 hi).1;have hlt:=Xo hl h0;have HJ:=kz hJ;clear hJ hl
  replace hlt:i < 12:=hlt
  obtain rfl | rfl | rfl | rfl | rfl | rfl | rfl | rfl | rfl | rfl | rfl:i=0∨i=1∨i=2∨i=3∨i=4∨i=5∨i=6∨i=7∨i=8∨i=9∨i=10:=by omega
  any_goals refine Ky rfl (fun K hK =>?_)
  ·clear hlt hif;go_simp;exact hK _ _ ⟨za U 0 _,rfl,(oz HJ).put 0 _ h0 zl (YZ zl) rfl Y0 (zJ rfl)⟩
  ·clear hlt hif;have d0:U 0=.pointer (some ⟨W.heap.size,0,none⟩):=(oz HJ).val 0 (zb hi 0 (by kernel_rfl));have q0:=(oz HF w (oz HJ).bel).cell 0;go_simp;exact hK _ _ ⟨za U 1 _,(by rw [zc d0];rfl),(oz HJ).put 1 _ h0 zl (YZ zl) rfl Y0 (zJ rfl)⟩
  ·clear hlt hif;have d1:U 1=.int .i32 r:=(oz HJ).val 1 (zb hi 1 (by kernel_rfl));go_simp;exact hK _ _ ⟨za U 2 _,(by rw [zc d1];rfl),(oz HJ).put 2 _ h0 (zl.alloc zD _) (YZ (zl.alloc zD _)) ⟨_,rfl,Zl w _ r _ rfl⟩ Y0 (zJ rfl)⟩
  ·clear hlt hif;obtain ⟨g2,d2,h2⟩:=(oz HJ).val 2 (zb hi 2 (by kernel_rfl));go_simp;refine (YC [r] (by simp) _ _ _ h2).mono ?_;rw [oz HE];rintro e w' ⟨rfl,hb⟩;exact hK _ _ ⟨za U 3 _,(by rw [zc d2];rfl),(oz HJ).put 3 _ h0 hb (YZ hb) rfl Y0 (zJ rfl)⟩
  ·clear hlt hif;go_simp;exact hK _ _ ⟨za U 4 _,rfl,(oz HJ).put 4 _ h0 zl (YZ zl) rfl Y0 (zJ rfl)⟩
  ·clear hlt hif;have d4:U 4=.pointer (some ⟨W.heap.size,1,none⟩):=(oz HJ).val 4 (zb hi 4 (by kernel_rfl));have q1:=(oz HF w (oz HJ).bel).cell 1;go_simp;exact hK _ _ ⟨za U 5 _,(by rw [zc d4];rfl),(oz HJ).put 5 _ h0 zl (YZ zl) rfl Y0 (zJ rfl)⟩
  ·clear hlt hif;have d5:U 5=.string s:=(oz HJ).val 5 (zb hi 5 (by kernel_rfl));go_simp;refine (oz HI _).mono ?_;rintro e w' ⟨rfl,hb⟩;exact hK _ _ ⟨za U 6 _,(by rw [zc d5];rfl),(oz HJ).put 6 _ h0 hb (YZ hb) rfl Y0 (zJ rfl)⟩
  ·clear hlt hif;have d6:U 6=.bool b:=(oz HJ).val 6 (zb hi 6 (by kernel_rfl));go_simp;exact hK _ _ ⟨za U 7 _,(by rw [zc d6];rfl),(oz HJ).put 7 _ h0 zl (YZ zl) rfl Y0 (zJ rfl)⟩
  ·clear hlt hif;have d7:U 7=.bool (!b):=(oz HJ).val 7 (zb hi 7 (by kernel_rfl));go_simp;refine (zK (!b) 35 _).mono ?_;rw [oz HE2];rintro e w' ⟨rfl,rfl⟩;exact hK _ _ ⟨za U 8 _,(by rw [zc d7];rfl),(oz HJ).put 8 _ h0 zl (YZ zl) rfl Y0 (zJ rfl)⟩
  ·clear hlt hif;have d3:U 3=.int .i64 e1:=(oz HJ).val 3 (zb hi 3 (by kernel_rfl));have d8:U 8=.int .i64 e2:=(oz HJ).val 8 (zb hi 8 (by kernel_rfl));go_simp;exact hK _ _ ⟨za U 9 _,(by rw [zc d3,zc d8];rfl),(oz HJ).put 9 _ h0 (zl.alloc zD _) (YZ (zl.alloc zD _)) ⟨_,rfl,Blk.new w _ _⟩ Y0 (zJ rfl)⟩
  ·clear hlt hif;obtain ⟨g9,d9,h9⟩:=(oz HJ).val 9 (zb hi 9 (by kernel_rfl));go_simp;refine (jK [e1,e2] (by simp) _ 0 _ _ (Jm h9)).mono ?_;rintro e w' ⟨rfl,rfl⟩;exact hK _ _ ⟨za U 10 _,(by rw [zc d9];rfl),(oz HJ).put 10 _ h0 zl (YZ zl) rfl Y0 (zJ rfl)⟩
 ·rintro l a w ⟨U,rfl,hJ⟩ hall;have d10:U 10=.int .i64 (orE [e1,e2]):=hJ.val 10 (hall 10 (by decide) (by decide));have HBJ:=kz ((oz HB).trans (hJ.bel.mono (oz HB).size));clear hJ hall;refine Ky rfl (fun K hK =>?_);go_simp;refine hK _ _ ?_;clear hK;go_wp2_with fail
  go_ret;exact ⟨rfl,oz HBJ⟩
def noX:Nat→Prop:=fun _ =>False
def zd8 (x:ByteArray × List (Int × Int)):Int:=if 1024 < x.2.length then 4 else 0
theorem zji (T:TV):zG 1 T.sc.length (fun i =>if 1024 < (T.sc.getD i (ByteArray.empty,[])).2.length then 4 else 0)=zg 1 T.sc sc0 zd8:=rfl
theorem Xd {α : Type} {l:List α} {i:Nat} {x : α} (d : α) (h:l[i]?=some x):l.getD i d=x:=by rw [List.getD_eq_getElem?_getD,h];rfl
theorem zaM:∀ args w,(callFunc 123 args).run Tryz.prog w=.ok (.enter 123 args) w:=enters_of Tryz.func123 (by kernel_rfl) rfl
theorem Km:∀ args w,(callFunc 125 args).run Tryz.prog w=.ok (.enter 125 args) w:=enters_of Tryz.func125 (by kernel_rfl) rfl
theorem zaO:∀ args w,(callFunc 128 args).run Tryz.prog w=.ok (.enter 128 args) w:=enters_of Tryz.func128 (by kernel_rfl) rfl
theorem zaN:∀ args w,(callFunc 130 args).run Tryz.prog w=.ok (.enter 130 args) w:=enters_of Tryz.func130 (by kernel_rfl) rfl
theorem zbE:∀ args w,(callFunc 132 args).run Tryz.prog w=.ok (.enter 132 args) w:=enters_of Tryz.func132 (by kernel_rfl) rfl
def ScR (W:World) (sc:List (ByteArray × List (Int × Int))) (us:List Value):Prop := ∀ (j:Nat) (x:ByteArray × List (Int × Int)) (u:Value),sc[j]?=some x→us[j]?=some u→∃ b d,u=.slice b x.2.length d∧RowC W W.heap.size b (zM x.2)
theorem ScR.sl {W:World} {sc:List (ByteArray × List (Int × Int))} {us:List Value} (h:ScR W sc us) (hus:us.length=sc.length):∀ (j:Nat) (u:Value),us[j]?=some u→∃ p n d,u=Value.slice p n d:=fun j u hu =>by
 have hj:=(Ze.1 hu).1;obtain ⟨b,d,e,_⟩:=h j _ u (qR (by omega)) hu;exact ⟨b,_,d,e⟩
theorem ScR.below {W w:World} {sc:List (ByteArray × List (Int × Int))} {us:List Value} (h:ScR W sc us) (hb:Below W.heap.size W w):ScR w sc us:=fun j x u hx hu =>by
 obtain ⟨b,d,e,hr⟩:=h j x u hx hu;exact ⟨b,d,e,hr.below hb hb.size⟩
theorem zjw (sc:List (ByteArray × List (Int × Int))) (us:List Value) (hus:us.length=sc.length) (hn:sc.length≤1000000) (a:Option Addr) (c:Nat) (W:World) (hr:RowC W W.heap.size a (jE sc us)) (hs:ScR W sc us) :
  Calls Tryz.prog 122 #[.int .i64 1,.slice a sc.length c,.func (.func 123) #[] #[]] W fun e w' =>e=.returned (wrV (zg 1 sc sc0 zd8))∧Below W.heap.size W w' :=
 (Ye 1 sc us hus (hs.sl hus) hn a c 123 #[] zaM (fun i =>zd8 (sc.getD i sc0)) noX (fun _ _ =>True) W.heap.size W zD (fun b h =>h.elim) hr trivial (fun _ _ _ _ _ =>trivial) (fun i x u w hx hu hk _ =>by
  obtain ⟨b,d,rfl,_⟩:=hs i x u hx hu;show Calls Tryz.prog _ _ w fun e w' =>e=.returned (.int .i64 (zd8 (sc.getD i sc0)))∧_
  rw [Xd sc0 hx];exact (zbw x.1 b x.2.length d w).mono (fun e w' ⟨he,hb⟩ =>⟨he,trivial,zt hb noX⟩))).mono (fun e w' ⟨he,hk⟩ =>⟨he,hk.below⟩)
theorem zgf (sc:List (ByteArray × List (Int × Int))) (us:List Value) (hus:us.length=sc.length) (hn:sc.length≤1000000) (hz:∀ x ∈ sc,x.1.size≤maxLen∧x.2.length≤1000000) (a:Option Addr) (c:Nat) (W:World) (hr:RowC W W.heap.size a (jE sc us)) (hs:ScR W sc us) :
  Calls Tryz.prog 122 #[.int .i64 1,.slice a sc.length c,.func (.func 125) #[] #[]] W fun e w' =>e=.returned (wrV (zg 1 sc sc0 scF))∧Below W.heap.size W w' :=
 (Ye 1 sc us hus (hs.sl hus) hn a c 125 #[] Km (fun i =>scF (sc.getD i sc0)) noX (fun _ _ =>True) W.heap.size W zD (fun b h =>h.elim) hr trivial (fun _ _ _ _ _ =>trivial) (fun i x u w hx hu hk _ =>by
  obtain ⟨b,d,rfl,hrx⟩:=hs i x u hx hu;show Calls Tryz.prog _ _ w fun e w' =>e=.returned (.int .i64 (scF (sc.getD i sc0)))∧_
  rw [Xd sc0 hx];have hm:=hz x (YH hx);exact (Kl x.1 hm.1 x.2 hm.2 b d w (YB (hrx.below hk.below hk.size) zD)).mono (fun e w' ⟨he,hb⟩ =>⟨he,trivial,zt hb noX⟩))).mono (fun e w' ⟨he,hk⟩ =>⟨he,hk.below⟩)
theorem zjv (zs:List (Int × Int)) (hn:zs.length≤1000000) (a:Option Addr) (c:Nat) (W:World) (hr:RowC W W.heap.size a (XP zs)) :
  Calls Tryz.prog 127 #[.int .i64 3,.slice a zs.length c,.func (.func 128) #[] #[]] W fun e w' =>e=.returned (wrV (zg 3 zs ma0 maF))∧Below W.heap.size W w' :=
 (Y2 3 zs hn a c 128 #[] zaO (fun i =>maF (zs.getD i ma0)) noX (fun _ _ =>True) W.heap.size W zD (fun b h =>h.elim) hr trivial (fun _ _ _ _ _ =>trivial) (fun i x w hx hk _ =>by
  show Calls Tryz.prog _ _ w fun e w' =>e=.returned (.int .i64 (maF (zs.getD i ma0)))∧_
  rw [Xd ma0 hx];exact (zaH x.1 x.2 w).mono (fun e w' ⟨he,hb⟩ =>⟨he,trivial,zt hb noX⟩))).mono (fun e w' ⟨he,hk⟩ =>⟨he,hk.below⟩)
theorem zju (zs:List (Int × Int × Int)) (hn:zs.length≤1000000) (a:Option Addr) (c:Nat) (W:World) (hr:RowC W W.heap.size a (Xh zs)) :
  Calls Tryz.prog 129 #[.int .i64 4,.slice a zs.length c,.func (.func 130) #[] #[]] W fun e w' =>e=.returned (wrV (zg 4 zs pr0 prF))∧Below W.heap.size W w' :=
 (Y1 4 zs hn a c 130 #[] zaN (fun i =>prF (zs.getD i pr0)) noX (fun _ _ =>True) W.heap.size W zD (fun b h =>h.elim) hr trivial (fun _ _ _ _ _ =>trivial) (fun i x w hx hk _ =>by
  show Calls Tryz.prog _ _ w fun e w' =>e=.returned (.int .i64 (prF (zs.getD i pr0)))∧_
  rw [Xd pr0 hx];exact (zaE x.1 x.2.1 x.2.2 w).mono (fun e w' ⟨he,hb⟩ =>⟨he,trivial,zt hb noX⟩))).mono (fun e w' ⟨he,hk⟩ =>⟨he,hk.below⟩)
theorem zix (list:Int) (zs:List (Int × ByteArray)) (hn:zs.length≤1000000) (hz:∀ x ∈ zs,x.2.size≤maxLen) (a:Option Addr) (c:Nat) (W:World) (hr:RowC W W.heap.size a (yW zs)) :
  Calls Tryz.prog 131 #[.int .i64 list,.slice a zs.length c,.func (.func 132) #[] #[]] W fun e w' =>e=.returned (wrV (zg list zs mp0 mpF))∧Below W.heap.size W w' :=
 (Zs list zs hn a c 132 #[] zbE (fun i =>mpF (zs.getD i mp0)) noX (fun _ _ =>True) W.heap.size W zD (fun b h =>h.elim) hr trivial (fun _ _ _ _ _ =>trivial) (fun i x w hx hk _ =>by
  show Calls Tryz.prog _ _ w fun e w' =>e=.returned (.int .i64 (mpF (zs.getD i mp0)))∧_
  rw [Xd mp0 hx];exact (zbB x.1 x.2 (hz x (YH hx)) w).mono (fun e w' ⟨he,hb⟩ =>⟨he,trivial,zt hb noX⟩))).mono (fun e w' ⟨he,hk⟩ =>⟨he,hk.below⟩)
theorem X0 (w:World) (b:Nat) (l:List (Int × Int × Int)) (cs:Array Value) (t:TypeId) (hb:b=w.heap.size) (h:cs=(l.flatMap fun x => [Value.int .i64 x.1,.int .i64 x.2.1,.int .i64 x.2.2]).toArray):RwW (w.alloc (.cells cs t)) b 0 l:=by
 subst hb h;have hB:=Blk.new w (l.flatMap fun x => [Value.int .i64 x.1,.int .i64 x.2.1,.int .i64 x.2.2]).toArray t;have key:∀ (l:List (Int × Int × Int)) (j:Nat) (x:Int × Int × Int),l[j]?=some x→(l.flatMap fun x => [Value.int .i64 x.1,.int .i64 x.2.1,.int .i64 x.2.2])[j*3]?=some (.int .i64 x.1)∧(l.flatMap fun x => [Value.int .i64 x.1,.int .i64 x.2.1,.int .i64 x.2.2])[j*3+1]?=some (.int .i64 x.2.1)∧(l.flatMap fun x => [Value.int .i64 x.1,.int .i64 x.2.1,.int .i64 x.2.2])[j*3+2]?=some (.int .i64 x.2.2):=by
  intro l
  induction l with
  | nil =>intro j x h;simp at h
  | cons y r ih =>
   intro j x h;cases j with
   | zero =>
    obtain rfl:y=x:=by simpa using h
    exact ⟨rfl,rfl,rfl⟩
   | succ j =>
    have:=ih j x (by simpa using h);rw [List.flatMap_cons,show (j+1)*3=j*3+1+1+1 by omega];exact this
 intro j x hx;obtain ⟨k0,k1,k2⟩:=key l j x hx;rw [Nat.zero_add];refine ⟨?_, ?_, ?_⟩
 ·rw [hB.cell (j*3),List.getElem?_toArray];exact k0
 ·rw [hB.cell (j*3+1),List.getElem?_toArray];exact k1
 ·rw [hB.cell (j*3+2),List.getElem?_toArray];exact k2
theorem RwW.below {w w':World} {g o:Nat} {l:List (Int × Int × Int)} (h:RwW w g o l) (hg:g < w.heap.size) (hb:Below w.heap.size w w'):RwW w' g o l:=fun j x hx =>by
 obtain ⟨h0,h1,h2⟩:=h j x hx;exact ⟨(hb.cell (p:=⟨g,o+j*3,none⟩) hg).trans h0,(hb.cell (p:=⟨g,o+j*3+1,none⟩) hg).trans h1,(hb.cell (p:=⟨g,o+j*3+2,none⟩) hg).trans h2⟩
theorem Yi (list:Int) (n m:Nat):OkW (XQ list n m):=by
 unfold XQ;by_cases h:n≤m
 ·rw [if_pos h];intro _;rfl
 ·rw [if_neg h];intro h';cases h'
theorem zR {α : Type} (list:Int) (l:List α) (d : α) (f : α→Int):OkW (zg list l d f):=qN _ _ _
theorem zbV (list:Int) (l:List (Int × Int)):OkW (spW list l):=qN _ _ _
structure TbF (w:World) (B R:Nat) (T:TV) (a0 a1 a2 a3 a4 a5 a6 a7:Option Addr) (c0 c1 c2 c3 c4 c5 c6 c7:Nat) (us:List Value):Prop where
 bx:Blk w B #[.slice a0 T.sc.length c0,.slice a1 T.co.length c1,.slice a2 T.ma.length c2,.slice a3 T.pr.length c3,.slice a4 T.fo.length c4,.slice a5 T.lk.length c5,.slice a6 T.dr.length c6,.slice a7 T.al.length c7] 31
 rs:Blk w R #[.int .i64 0,.int .i64 0,.int .i64 0] 89
 ti:TabIn w T a0 a1 a2 a3 a4 a5 a6 a7 us
theorem TbF.below {w w':World} {B R:Nat} {T:TV} {a0 a1 a2 a3 a4 a5 a6 a7:Option Addr} {c0 c1 c2 c3 c4 c5 c6 c7:Nat} {us:List Value} (h:TbF w B R T a0 a1 a2 a3 a4 a5 a6 a7 c0 c1 c2 c3 c4 c5 c6 c7 us) (hb:Below w.heap.size w w'):TbF w' B R T a0 a1 a2 a3 a4 a5 a6 a7 c0 c1 c2 c3 c4 c5 c6 c7 us :=
 ⟨h.bx.below hb h.bx.lt,h.rs.below hb h.rs.lt,h.ti.lower hb⟩
def tmD (B:Nat) (T:TV) (a0 a1 a2 a3 a4 a5 a6 a7:Option Addr) (c0 c1 c2 c3 c4 c5 c6 c7:Nat) (x0 x1 x2 x3 x4 x5 x6 x7 x8:Int × Int × Int):Nat→Value→World→Prop
 | 0,v,w =>v=.pointer (some ⟨B,0,none⟩)
 | 1,v,w =>v=.slice a0 T.sc.length c0
 | 2,v,w =>v=.int .i64 (T.sc.length:Nat)
 | 3,v,w =>v=wrV x0
 | 4,v,w =>v=.pointer (some ⟨B,0,none⟩)
 | 5,v,w =>v=.slice a0 T.sc.length c0
 | 6,v,w =>v=wrV x1
 | 7,v,w =>v=.pointer (some ⟨B,1,none⟩)
 | 8,v,w =>v=.slice a1 T.co.length c1
 | 9,v,w =>v=.int .i64 (T.co.length:Nat)
 | 10,v,w =>v=wrV x2
 | 11,v,w =>v=.pointer (some ⟨B,2,none⟩)
 | 12,v,w =>v=.slice a2 T.ma.length c2
 | 13,v,w =>v=.int .i64 (T.ma.length:Nat)
 | 14,v,w =>v=wrV x3
 | 15,v,w =>v=.pointer (some ⟨B,3,none⟩)
 | 16,v,w =>v=.slice a3 T.pr.length c3
 | 17,v,w =>v=.int .i64 (T.pr.length:Nat)
 | 18,v,w =>v=wrV x4
 | 19,v,w =>v=.pointer (some ⟨B,4,none⟩)
 | 20,v,w =>v=.slice a4 T.fo.length c4
 | 21,v,w =>v=.int .i64 (T.fo.length:Nat)
 | 22,v,w =>v=wrV x5
 | 23,v,w =>v=.pointer (some ⟨B,5,none⟩)
 | 24,v,w =>v=.slice a5 T.lk.length c5
 | 25,v,w =>v=.int .i64 (T.lk.length:Nat)
 | 26,v,w =>v=wrV x6
 | 27,v,w =>v=.pointer (some ⟨B,6,none⟩)
 | 28,v,w =>v=.slice a6 T.dr.length c6
 | 29,v,w =>v=.int .i64 (T.dr.length:Nat)
 | 30,v,w =>v=wrV x7
 | 31,v,w =>v=.pointer (some ⟨B,7,none⟩)
 | 32,v,w =>v=.slice a7 T.al.length c7
 | 33,v,w =>v=.int .i64 (T.al.length:Nat)
 | 34,v,w =>v=wrV x8
 | 35,v,w => ∃ g,v=.slice (some ⟨g,0,none⟩) 9 9∧g < w.heap.size∧RwW w g 0 [x0,x1,x2,x3,x4,x5,x6,x7,x8]
 | 36,v,w =>v=wrV (orW [x0,x1,x2,x3,x4,x5,x6,x7,x8])
 | _,v,w =>True
def zkQ (j:Nat):Bool:=false
theorem yC {B:Nat} {T:TV} {a0 a1 a2 a3 a4 a5 a6 a7:Option Addr} {c0 c1 c2 c3 c4 c5 c6 c7:Nat} {x0 x1 x2 x3 x4 x5 x6 x7 x8:Int × Int × Int} {w w':World} (hb:Below w.heap.size w w'):∀ (j:Nat) (v:Value),tmD B T a0 a1 a2 a3 a4 a5 a6 a7 c0 c1 c2 c3 c4 c5 c6 c7 x0 x1 x2 x3 x4 x5 x6 x7 x8 j v w→tmD B T a0 a1 a2 a3 a4 a5 a6 a7 c0 c1 c2 c3 c4 c5 c6 c7 x0 x1 x2 x3 x4 x5 x6 x7 x8 j v w'
 | 0,v,h =>h
 | 1,v,h =>h
 | 2,v,h =>h
 | 3,v,h =>h
 | 4,v,h =>h
 | 5,v,h =>h
 | 6,v,h =>h
 | 7,v,h =>h
 | 8,v,h =>h
 | 9,v,h =>h
 | 10,v,h =>h
 | 11,v,h =>h
 | 12,v,h =>h
 | 13,v,h =>h
 | 14,v,h =>h
 | 15,v,h =>h
 | 16,v,h =>h
 | 17,v,h =>h
 | 18,v,h =>h
 | 19,v,h =>h
 | 20,v,h =>h
 | 21,v,h =>h
 | 22,v,h =>h
 | 23,v,h =>h
 | 24,v,h =>h
 | 25,v,h =>h
 | 26,v,h =>h
 | 27,v,h =>h
 | 28,v,h =>h
 | 29,v,h =>h
 | 30,v,h =>h
 | 31,v,h =>h
 | 32,v,h =>h
 | 33,v,h =>h
 | 34,v,h =>h
 | 35,v,h =>let ⟨g,e,h1,h2⟩:=h; ⟨g,e,zaY h1 hb.size,h2.below h1 hb⟩
 | 36,v,h =>h
 | _+37,v,h =>h
theorem yD {B:Nat} {T:TV} {a0 a1 a2 a3 a4 a5 a6 a7:Option Addr} {c0 c1 c2 c3 c4 c5 c6 c7:Nat} {x0 x1 x2 x3 x4 x5 x6 x7 x8:Int × Int × Int} {w:World} (j:Nat) (v:Value) (hm:zkQ j=true) (h:tmD B T a0 a1 a2 a3 a4 a5 a6 a7 c0 c1 c2 c3 c4 c5 c6 c7 x0 x1 x2 x3 x4 x5 x6 x7 x8 j v w):∀ b,v.ownBlock=some b→b < w.heap.size:=by
 cases hm
theorem zci (T:TV) (hn:T.sc.length≤1000000) (a0 a1 a2 a3 a4 a5 a6 a7:Option Addr) (c0 c1 c2 c3 c4 c5 c6 c7:Nat) (us:List Value) (W:World) (hT:TabIn W T a0 a1 a2 a3 a4 a5 a6 a7 us) :
  Calls Tryz.prog 82 #[.agg #[.slice a0 T.sc.length c0,.slice a1 T.co.length c1,.slice a2 T.ma.length c2,.slice a3 T.pr.length c3,.slice a4 T.fo.length c4,.slice a5 T.lk.length c5,.slice a6 T.dr.length c6,.slice a7 T.al.length c7]] W fun e w' =>e=.returned (wrV (jL T))∧Below W.heap.size W w':=by
 have hmx:=zdA
 have hB0:Below W.heap.size W ((W.alloc (.cells #[.slice a0 T.sc.length c0,.slice a1 T.co.length c1,.slice a2 T.ma.length c2,.slice a3 T.pr.length c3,.slice a4 T.fo.length c4,.slice a5 T.lk.length c5,.slice a6 T.dr.length c6,.slice a7 T.al.length c7] 31)).alloc (.cells #[.int .i64 0,.int .i64 0,.int .i64 0] 89)).drew:=(((Below.refl _ W).alloc zD _).alloc (by simp) _).trans ⟨rfl,rfl,rfl,zD,fun _ _ =>rfl⟩;have bA:Blk ((W.alloc (.cells #[.slice a0 T.sc.length c0,.slice a1 T.co.length c1,.slice a2 T.ma.length c2,.slice a3 T.pr.length c3,.slice a4 T.fo.length c4,.slice a5 T.lk.length c5,.slice a6 T.dr.length c6,.slice a7 T.al.length c7] 31)).alloc (.cells #[.int .i64 0,.int .i64 0,.int .i64 0] 89)).drew W.heap.size #[.slice a0 T.sc.length c0,.slice a1 T.co.length c1,.slice a2 T.ma.length c2,.slice a3 T.pr.length c3,.slice a4 T.fo.length c4,.slice a5 T.lk.length c5,.slice a6 T.dr.length c6,.slice a7 T.al.length c7] 31:=(Blk.new W #[.slice a0 T.sc.length c0,.slice a1 T.co.length c1,.slice a2 T.ma.length c2,.slice a3 T.pr.length c3,.slice a4 T.fo.length c4,.slice a5 T.lk.length c5,.slice a6 T.dr.length c6,.slice a7 T.al.length c7] 31).alloc _;have bR:Blk ((W.alloc (.cells #[.slice a0 T.sc.length c0,.slice a1 T.co.length c1,.slice a2 T.ma.length c2,.slice a3 T.pr.length c3,.slice a4 T.fo.length c4,.slice a5 T.lk.length c5,.slice a6 T.dr.length c6,.slice a7 T.al.length c7] 31)).alloc (.cells #[.int .i64 0,.int .i64 0,.int .i64 0] 89)).drew (W.heap.size+1) #[.int .i64 0,.int .i64 0,.int .i64 0] 89:=by
  have h:=Blk.new (W.alloc (.cells #[.slice a0 T.sc.length c0,.slice a1 T.co.length c1,.slice a2 T.ma.length c2,.slice a3 T.pr.length c3,.slice a4 T.fo.length c4,.slice a5 T.lk.length c5,.slice a6 T.dr.length c6,.slice a7 T.al.length c7] 31)) #[.int .i64 0,.int .i64 0,.int .i64 0] 89;rw [World.size_alloc] at h;exact h
 have hTF:TbF ((W.alloc (.cells #[.slice a0 T.sc.length c0,.slice a1 T.co.length c1,.slice a2 T.ma.length c2,.slice a3 T.pr.length c3,.slice a4 T.fo.length c4,.slice a5 T.lk.length c5,.slice a6 T.dr.length c6,.slice a7 T.al.length c7] 31)).alloc (.cells #[.int .i64 0,.int .i64 0,.int .i64 0] 89)).drew W.heap.size (W.heap.size+1) T a0 a1 a2 a3 a4 a5 a6 a7 c0 c1 c2 c3 c4 c5 c6 c7 us:=⟨bA,bR,hT.lower hB0⟩;have HF:Hz (∀ w1,Below ((W.alloc (.cells #[.slice a0 T.sc.length c0,.slice a1 T.co.length c1,.slice a2 T.ma.length c2,.slice a3 T.pr.length c3,.slice a4 T.fo.length c4,.slice a5 T.lk.length c5,.slice a6 T.dr.length c6,.slice a7 T.al.length c7] 31)).alloc (.cells #[.int .i64 0,.int .i64 0,.int .i64 0] 89)).drew.heap.size ((W.alloc (.cells #[.slice a0 T.sc.length c0,.slice a1 T.co.length c1,.slice a2 T.ma.length c2,.slice a3 T.pr.length c3,.slice a4 T.fo.length c4,.slice a5 T.lk.length c5,.slice a6 T.dr.length c6,.slice a7 T.al.length c7] 31)).alloc (.cells #[.int .i64 0,.int .i64 0,.int .i64 0] 89)).drew w1→TbF w1 W.heap.size (W.heap.size+1) T a0 a1 a2 a3 a4 a5 a6 a7 c0 c1 c2 c3 c4 c5 c6 c7 us):=kz (fun w1 h =>hTF.below h);have HB:=kz hB0;clear hB0 bA bR hTF hT;obtain ⟨x0,hx0⟩:∃ x,XQ 1 T.sc.length 64=x:=⟨_,rfl⟩;obtain ⟨x1,hx1⟩:∃ x,zg 1 T.sc sc0 zd8=x:=⟨_,rfl⟩;obtain ⟨x2,hx2⟩:∃ x,XQ 2 T.co.length 1024=x:=⟨_,rfl⟩;obtain ⟨x3,hx3⟩:∃ x,XQ 3 T.ma.length 512=x:=⟨_,rfl⟩;obtain ⟨x4,hx4⟩:∃ x,XQ 4 T.pr.length 4096=x:=⟨_,rfl⟩;obtain ⟨x5,hx5⟩:∃ x,XQ 5 T.fo.length 4096=x:=⟨_,rfl⟩;obtain ⟨x6,hx6⟩:∃ x,XQ 6 T.lk.length 4096=x:=⟨_,rfl⟩;obtain ⟨x7,hx7⟩:∃ x,XQ 7 T.dr.length 1024=x:=⟨_,rfl⟩;obtain ⟨x8,hx8⟩:∃ x,XQ 8 T.al.length 1024=x:=⟨_,rfl⟩;have HOK:Hz (∀ x ∈ [x0,x1,x2,x3,x4,x5,x6,x7,x8],OkW x):=kz (by
  intro x hx;simp only [List.mem_cons,List.not_mem_nil,or_false] at hx;rcases hx with rfl | rfl | rfl | rfl | rfl | rfl | rfl | rfl | rfl
  ·rw [← hx0];exact Yi _ _ _
  ·rw [← hx1];exact zR _ _ _ _
  ·rw [← hx2];exact Yi _ _ _
  ·rw [← hx3];exact Yi _ _ _
  ·rw [← hx4];exact Yi _ _ _
  ·rw [← hx5];exact Yi _ _ _
  ·rw [← hx6];exact Yi _ _ _
  ·rw [← hx7];exact Yi _ _ _
  ·rw [← hx8];exact Yi _ _ _)
 have hfin:jL T=orW [x0,x1,x2,x3,x4,x5,x6,x7,x8]:=by
  unfold jL;rw [hx0,zji,hx1,hx2,hx3,hx4,hx5,hx6,hx7,hx8]
 rw [hfin];have HX0:=kz hx0;have HX1:=kz hx1;have HX2:=kz hx2;have HX3:=kz hx3;have HX4:=kz hx4;have HX5:=kz hx5;have HX6:=kz hx6;have HX7:=kz hx7;have HX8:=kz hx8;clear hfin hx0 hx1 hx2 hx3 hx4 hx5 hx6 hx7 hx8;go_enter Tryz.func82,Tryz.ntmps82;go_wp2_with fail
 generalize (W.alloc _).alloc _=w0 at *;refine zn hmx 37 (by decide) (by kernel_rfl) (by kernel_rfl) (fun l a w => ∃ U:Nat→Value,a = { tmps:=#[.agg #[.slice a0 T.sc.length c0,.slice a1 T.co.length c1,.slice a2 T.ma.length c2,.slice a3 T.pr.length c3,.slice a4 T.fo.length c4,.slice a5 T.lk.length c5,.slice a6 T.dr.length c6,.slice a7 T.al.length c7],.pointer (some ⟨W.heap.size,0,none⟩),.pointer (some ⟨W.heap.size+1,0,none⟩),U 0,U 1,U 2,U 3,U 4,U 5,U 6,U 7,U 8,U 9,U 10,U 11,U 12,U 13,U 14,U 15,U 16,U 17,U 18,U 19,U 20,U 21,U 22,U 23,U 24,U 25,U 26,U 27,U 28,U 29,U 30,U 31,U 32,U 33,U 34,U 35,U 36],defers := [] }∧RgJ (w0.drew) (w0.drew.heap.size) (tmD W.heap.size T a0 a1 a2 a3 a4 a5 a6 a7 c0 c1 c2 c3 c4 c5 c6 c7 x0 x1 x2 x3 x4 x5 x6 x7 x8) zkQ l U w) ⟨fun _ =>undef,rfl,RgJ.start _ _ zD⟩ ?_ ?_
 ·rintro l a w i ⟨U,rfl,hJ⟩ hl hi hif;have h0:=(mem_ready.1 hi).1;have hlt:=Xo hl h0;have HJ:=kz hJ;clear hJ hl
  replace hlt:i < 38:=hlt
  obtain rfl | rfl | rfl | rfl | rfl | rfl | rfl | rfl | rfl | rfl | rfl | rfl | rfl | rfl | rfl | rfl | rfl | rfl | rfl | rfl | rfl | rfl | rfl | rfl | rfl | rfl | rfl | rfl | rfl | rfl | rfl | rfl | rfl | rfl | rfl | rfl | rfl:i=0∨i=1∨i=2∨i=3∨i=4∨i=5∨i=6∨i=7∨i=8∨i=9∨i=10∨i=11∨i=12∨i=13∨i=14∨i=15∨i=16∨i=17∨i=18∨i=19∨i=20∨i=21∨i=22∨i=23∨i=24∨i=25∨i=26∨i=27∨i=28∨i=29∨i=30∨i=31∨i=32∨i=33∨i=34∨i=35∨i=36:=by omega
  any_goals refine Ky rfl (fun K hK =>?_)
  ·clear hlt hif;go_simp;exact hK _ _ ⟨za U 0 _,rfl,(oz HJ).put 0 _ h0 zl (yC zl) rfl yD (zJ rfl)⟩
  ·clear hlt hif;have d0:U 0=.pointer (some ⟨W.heap.size,0,none⟩):=(oz HJ).val 0 (zb hi 0 (by kernel_rfl));have q0:=(oz HF w (oz HJ).bel).bx.cell 0;go_simp;exact hK _ _ ⟨za U 1 _,(by rw [zc d0];rfl),(oz HJ).put 1 _ h0 zl (yC zl) rfl yD (zJ rfl)⟩
  ·clear hlt hif;have d1:U 1=.slice a0 T.sc.length c0:=(oz HJ).val 1 (zb hi 1 (by kernel_rfl));go_simp;exact hK _ _ ⟨za U 2 _,(by rw [zc d1];rfl),(oz HJ).put 2 _ h0 zl (yC zl) rfl yD (zJ rfl)⟩
  ·clear hlt hif;have d2:U 2=.int .i64 (T.sc.length:Nat):=(oz HJ).val 2 (zb hi 2 (by kernel_rfl));go_simp;refine (qV 1 T.sc.length 64 _).mono ?_;rw [oz HX0];rintro e w' ⟨rfl,hb⟩;exact hK _ _ ⟨za U 3 _,(by rw [zc d2];rfl),(oz HJ).put 3 _ h0 hb (yC hb) rfl yD (zJ rfl)⟩
  ·clear hlt hif;go_simp;exact hK _ _ ⟨za U 4 _,rfl,(oz HJ).put 4 _ h0 zl (yC zl) rfl yD (zJ rfl)⟩
  ·clear hlt hif;have d4:U 4=.pointer (some ⟨W.heap.size,0,none⟩):=(oz HJ).val 4 (zb hi 4 (by kernel_rfl));have q0:=(oz HF w (oz HJ).bel).bx.cell 0;go_simp;exact hK _ _ ⟨za U 5 _,(by rw [zc d4];rfl),(oz HJ).put 5 _ h0 zl (yC zl) rfl yD (zJ rfl)⟩
  ·clear hlt hif;have d5:U 5=.slice a0 T.sc.length c0:=(oz HJ).val 5 (zb hi 5 (by kernel_rfl));have hf:=oz HF w (oz HJ).bel;go_simp;refine (zjw T.sc us hf.ti.lu hn _ _ _ hf.ti.r0 hf.ti.rs).mono ?_;rw [oz HX1];rintro e w' ⟨rfl,hb⟩;exact hK _ _ ⟨za U 6 _,(by rw [zc d5];rfl),(oz HJ).put 6 _ h0 hb (yC hb) rfl yD (zJ rfl)⟩
  ·clear hlt hif;go_simp;exact hK _ _ ⟨za U 7 _,rfl,(oz HJ).put 7 _ h0 zl (yC zl) rfl yD (zJ rfl)⟩
  ·clear hlt hif;have d7:U 7=.pointer (some ⟨W.heap.size,1,none⟩):=(oz HJ).val 7 (zb hi 7 (by kernel_rfl));have q0:=(oz HF w (oz HJ).bel).bx.cell 1;go_simp;exact hK _ _ ⟨za U 8 _,(by rw [zc d7];rfl),(oz HJ).put 8 _ h0 zl (yC zl) rfl yD (zJ rfl)⟩
  ·clear hlt hif;have d8:U 8=.slice a1 T.co.length c1:=(oz HJ).val 8 (zb hi 8 (by kernel_rfl));go_simp;exact hK _ _ ⟨za U 9 _,(by rw [zc d8];rfl),(oz HJ).put 9 _ h0 zl (yC zl) rfl yD (zJ rfl)⟩
  ·clear hlt hif;have d9:U 9=.int .i64 (T.co.length:Nat):=(oz HJ).val 9 (zb hi 9 (by kernel_rfl));go_simp;refine (qV 2 T.co.length 1024 _).mono ?_;rw [oz HX2];rintro e w' ⟨rfl,hb⟩;exact hK _ _ ⟨za U 10 _,(by rw [zc d9];rfl),(oz HJ).put 10 _ h0 hb (yC hb) rfl yD (zJ rfl)⟩
  ·clear hlt hif;go_simp;exact hK _ _ ⟨za U 11 _,rfl,(oz HJ).put 11 _ h0 zl (yC zl) rfl yD (zJ rfl)⟩
  ·clear hlt hif;have d11:U 11=.pointer (some ⟨W.heap.size,2,none⟩):=(oz HJ).val 11 (zb hi 11 (by kernel_rfl));have q0:=(oz HF w (oz HJ).bel).bx.cell 2;go_simp;exact hK _ _ ⟨za U 12 _,(by rw [zc d11];rfl),(oz HJ).put 12 _ h0 zl (yC zl) rfl yD (zJ rfl)⟩
  ·clear hlt hif;have d12:U 12=.slice a2 T.ma.length c2:=(oz HJ).val 12 (zb hi 12 (by kernel_rfl));go_simp;exact hK _ _ ⟨za U 13 _,(by rw [zc d12];rfl),(oz HJ).put 13 _ h0 zl (yC zl) rfl yD (zJ rfl)⟩
  ·clear hlt hif;have d13:U 13=.int .i64 (T.ma.length:Nat):=(oz HJ).val 13 (zb hi 13 (by kernel_rfl));go_simp;refine (qV 3 T.ma.length 512 _).mono ?_;rw [oz HX3];rintro e w' ⟨rfl,hb⟩;exact hK _ _ ⟨za U 14 _,(by rw [zc d13];rfl),(oz HJ).put 14 _ h0 hb (yC hb) rfl yD (zJ rfl)⟩
  ·clear hlt hif;go_simp;exact hK _ _ ⟨za U 15 _,rfl,(oz HJ).put 15 _ h0 zl (yC zl) rfl yD (zJ rfl)⟩
  ·clear hlt hif;have d15:U 15=.pointer (some ⟨W.heap.size,3,none⟩):=(oz HJ).val 15 (zb hi 15 (by kernel_rfl));have q0:=(oz HF w (oz HJ).bel).bx.cell 3;go_simp;exact hK _ _ ⟨za U 16 _,(by rw [zc d15];rfl),(oz HJ).put 16 _ h0 zl (yC zl) rfl yD (zJ rfl)⟩
  ·clear hlt hif;have d16:U 16=.slice a3 T.pr.length c3:=(oz HJ).val 16 (zb hi 16 (by kernel_rfl));go_simp;exact hK _ _ ⟨za U 17 _,(by rw [zc d16];rfl),(oz HJ).put 17 _ h0 zl (yC zl) rfl yD (zJ rfl)⟩
  ·clear hlt hif;have d17:U 17=.int .i64 (T.pr.length:Nat):=(oz HJ).val 17 (zb hi 17 (by kernel_rfl));go_simp;refine (qV 4 T.pr.length 4096 _).mono ?_;rw [oz HX4];rintro e w' ⟨rfl,hb⟩;exact hK _ _ ⟨za U 18 _,(by rw [zc d17];rfl),(oz HJ).put 18 _ h0 hb (yC hb) rfl yD (zJ rfl)⟩
  ·clear hlt hif;go_simp;exact hK _ _ ⟨za U 19 _,rfl,(oz HJ).put 19 _ h0 zl (yC zl) rfl yD (zJ rfl)⟩
  ·clear hlt hif;have d19:U 19=.pointer (some ⟨W.heap.size,4,none⟩):=(oz HJ).val 19 (zb hi 19 (by kernel_rfl));have q0:=(oz HF w (oz HJ).bel).bx.cell 4;go_simp;exact hK _ _ ⟨za U 20 _,(by rw [zc d19];rfl),(oz HJ).put 20 _ h0 zl (yC zl) rfl yD (zJ rfl)⟩
  ·clear hlt hif;have d20:U 20=.slice a4 T.fo.length c4:=(oz HJ).val 20 (zb hi 20 (by kernel_rfl));go_simp;exact hK _ _ ⟨za U 21 _,(by rw [zc d20];rfl),(oz HJ).put 21 _ h0 zl (yC zl) rfl yD (zJ rfl)⟩
  ·clear hlt hif;have d21:U 21=.int .i64 (T.fo.length:Nat):=(oz HJ).val 21 (zb hi 21 (by kernel_rfl));go_simp;refine (qV 5 T.fo.length 4096 _).mono ?_;rw [oz HX5];rintro e w' ⟨rfl,hb⟩;exact hK _ _ ⟨za U 22 _,(by rw [zc d21];rfl),(oz HJ).put 22 _ h0 hb (yC hb) rfl yD (zJ rfl)⟩
  ·clear hlt hif;go_simp;exact hK _ _ ⟨za U 23 _,rfl,(oz HJ).put 23 _ h0 zl (yC zl) rfl yD (zJ rfl)⟩
  ·clear hlt hif;have d23:U 23=.pointer (some ⟨W.heap.size,5,none⟩):=(oz HJ).val 23 (zb hi 23 (by kernel_rfl));have q0:=(oz HF w (oz HJ).bel).bx.cell 5;go_simp;exact hK _ _ ⟨za U 24 _,(by rw [zc d23];rfl),(oz HJ).put 24 _ h0 zl (yC zl) rfl yD (zJ rfl)⟩
  ·clear hlt hif;have d24:U 24=.slice a5 T.lk.length c5:=(oz HJ).val 24 (zb hi 24 (by kernel_rfl));go_simp;exact hK _ _ ⟨za U 25 _,(by rw [zc d24];rfl),(oz HJ).put 25 _ h0 zl (yC zl) rfl yD (zJ rfl)⟩
  ·clear hlt hif;have d25:U 25=.int .i64 (T.lk.length:Nat):=(oz HJ).val 25 (zb hi 25 (by kernel_rfl));go_simp;refine (qV 6 T.lk.length 4096 _).mono ?_;rw [oz HX6];rintro e w' ⟨rfl,hb⟩;exact hK _ _ ⟨za U 26 _,(by rw [zc d25];rfl),(oz HJ).put 26 _ h0 hb (yC hb) rfl yD (zJ rfl)⟩
  ·clear hlt hif;go_simp;exact hK _ _ ⟨za U 27 _,rfl,(oz HJ).put 27 _ h0 zl (yC zl) rfl yD (zJ rfl)⟩
  ·clear hlt hif;have d27:U 27=.pointer (some ⟨W.heap.size,6,none⟩):=(oz HJ).val 27 (zb hi 27 (by kernel_rfl));have q0:=(oz HF w (oz HJ).bel).bx.cell 6;go_simp;exact hK _ _ ⟨za U 28 _,(by rw [zc d27];rfl),(oz HJ).put 28 _ h0 zl (yC zl) rfl yD (zJ rfl)⟩
  ·clear hlt hif;have d28:U 28=.slice a6 T.dr.length c6:=(oz HJ).val 28 (zb hi 28 (by kernel_rfl));go_simp;exact hK _ _ ⟨za U 29 _,(by rw [zc d28];rfl),(oz HJ).put 29 _ h0 zl (yC zl) rfl yD (zJ rfl)⟩
  ·clear hlt hif;have d29:U 29=.int .i64 (T.dr.length:Nat):=(oz HJ).val 29 (zb hi 29 (by kernel_rfl));go_simp;refine (qV 7 T.dr.length 1024 _).mono ?_;rw [oz HX7];rintro e w' ⟨rfl,hb⟩;exact hK _ _ ⟨za U 30 _,(by rw [zc d29];rfl),(oz HJ).put 30 _ h0 hb (yC hb) rfl yD (zJ rfl)⟩
  ·clear hlt hif;go_simp;exact hK _ _ ⟨za U 31 _,rfl,(oz HJ).put 31 _ h0 zl (yC zl) rfl yD (zJ rfl)⟩
  ·clear hlt hif;have d31:U 31=.pointer (some ⟨W.heap.size,7,none⟩):=(oz HJ).val 31 (zb hi 31 (by kernel_rfl));have q0:=(oz HF w (oz HJ).bel).bx.cell 7;go_simp;exact hK _ _ ⟨za U 32 _,(by rw [zc d31];rfl),(oz HJ).put 32 _ h0 zl (yC zl) rfl yD (zJ rfl)⟩
  ·clear hlt hif;have d32:U 32=.slice a7 T.al.length c7:=(oz HJ).val 32 (zb hi 32 (by kernel_rfl));go_simp;exact hK _ _ ⟨za U 33 _,(by rw [zc d32];rfl),(oz HJ).put 33 _ h0 zl (yC zl) rfl yD (zJ rfl)⟩
  ·clear hlt hif;have d33:U 33=.int .i64 (T.al.length:Nat):=(oz HJ).val 33 (zb hi 33 (by kernel_rfl));go_simp;refine (qV 8 T.al.length 1024 _).mono ?_;rw [oz HX8];rintro e w' ⟨rfl,hb⟩;exact hK _ _ ⟨za U 34 _,(by rw [zc d33];rfl),(oz HJ).put 34 _ h0 hb (yC hb) rfl yD (zJ rfl)⟩
  ·clear hlt hif;have d3:U 3=wrV x0:=(oz HJ).val 3 (zb hi 3 (by kernel_rfl));have d6:U 6=wrV x1:=(oz HJ).val 6 (zb hi 6 (by kernel_rfl));have d10:U 10=wrV x2:=(oz HJ).val 10 (zb hi 10 (by kernel_rfl));have d14:U 14=wrV x3:=(oz HJ).val 14 (zb hi 14 (by kernel_rfl));have d18:U 18=wrV x4:=(oz HJ).val 18 (zb hi 18 (by kernel_rfl));have d22:U 22=wrV x5:=(oz HJ).val 22 (zb hi 22 (by kernel_rfl));have d26:U 26=wrV x6:=(oz HJ).val 26 (zb hi 26 (by kernel_rfl));have d30:U 30=wrV x7:=(oz HJ).val 30 (zb hi 30 (by kernel_rfl));have d34:U 34=wrV x8:=(oz HJ).val 34 (zb hi 34 (by kernel_rfl));unfold wrV at d3 d6 d10 d14 d18 d22 d26 d30 d34;go_simp;exact hK _ _ ⟨za U 35 _,(by rw [zc d3,zc d6,zc d10,zc d14,zc d18,zc d22,zc d26,zc d30,zc d34];rfl),(oz HJ).put 35 _ h0 (zl.alloc zD _) (yC (zl.alloc zD _)) ⟨_,rfl,by simp,X0 w _ [x0,x1,x2,x3,x4,x5,x6,x7,x8] _ _ rfl rfl⟩ yD (zJ rfl)⟩
  ·clear hlt hif;obtain ⟨g35,d35,l35,h35⟩:=(oz HJ).val 35 (zb hi 35 (by kernel_rfl));go_simp;refine (qT [x0,x1,x2,x3,x4,x5,x6,x7,x8] (by simp) (oz HOK) _ 0 _ _ l35 h35).mono ?_;rintro e w' ⟨rfl,hb⟩;exact hK _ _ ⟨za U 36 _,(by rw [zc d35];rfl),(oz HJ).put 36 _ h0 hb (yC hb) rfl yD (zJ rfl)⟩
 ·rintro l a w ⟨U,rfl,hJ⟩ hall;have d36:U 36=wrV (orW [x0,x1,x2,x3,x4,x5,x6,x7,x8]):=hJ.val 36 (hall 36 (by decide) (by decide));have HBJ:=kz (yB ((oz HB).trans (hJ.bel.mono (oz HB).size)) (oz HF w hJ.bel).rs);clear hJ hall;refine Ky rfl (fun K hK =>?_);obtain ⟨y,hy⟩:∃ y,orW [x0,x1,x2,x3,x4,x5,x6,x7,x8]=y:=⟨_,rfl⟩;rw [hy] at d36;have HY:=kz hy;clear hy;obtain ⟨y0,y1,y2⟩:=y;unfold wrV at d36;have r0:=(oz HBJ).2.cell 0;have f0:=(oz HBJ).2.frozen 0;have r1:=(oz HBJ).2.cell 1;have f1:=(oz HBJ).2.frozen 1;have r2:=(oz HBJ).2.cell 2;have f2:=(oz HBJ).2.frozen 2;go_simp;refine hK _ _ ?_;clear hK;go_wp2_with fail
  exact XS (v:=wrV (y0,y1,y2)) (jA Tryz.results82 rfl (jG (oz HBJ).2 _ _ _) rfl) rfl ⟨by rw [oz HY],zY (oz HBJ).1 (by omega) (oz HBJ).1.size _ _ _⟩
def mfD (B:Nat) (T:TV) (a0 a1 a2 a3 a4 a5 a6 a7:Option Addr) (c0 c1 c2 c3 c4 c5 c6 c7:Nat) (x0 x1 x2 x3 x4 x5 x6 x7:Int × Int × Int):Nat→Value→World→Prop
 | 0,v,w =>v=.pointer (some ⟨B,0,none⟩)
 | 1,v,w =>v=.slice a0 T.sc.length c0
 | 2,v,w =>v=wrV x0
 | 3,v,w =>v=.pointer (some ⟨B,1,none⟩)
 | 4,v,w =>v=.slice a1 T.co.length c1
 | 5,v,w =>v=wrV x1
 | 6,v,w =>v=.pointer (some ⟨B,2,none⟩)
 | 7,v,w =>v=.slice a2 T.ma.length c2
 | 8,v,w =>v=wrV x2
 | 9,v,w =>v=.pointer (some ⟨B,3,none⟩)
 | 10,v,w =>v=.slice a3 T.pr.length c3
 | 11,v,w =>v=wrV x3
 | 12,v,w =>v=.pointer (some ⟨B,4,none⟩)
 | 13,v,w =>v=.slice a4 T.fo.length c4
 | 14,v,w =>v=wrV x4
 | 15,v,w =>v=.pointer (some ⟨B,5,none⟩)
 | 16,v,w =>v=.slice a5 T.lk.length c5
 | 17,v,w =>v=wrV x5
 | 18,v,w =>v=.pointer (some ⟨B,6,none⟩)
 | 19,v,w =>v=.slice a6 T.dr.length c6
 | 20,v,w =>v=wrV x6
 | 21,v,w =>v=.pointer (some ⟨B,7,none⟩)
 | 22,v,w =>v=.slice a7 T.al.length c7
 | 23,v,w =>v=wrV x7
 | 24,v,w => ∃ g,v=.slice (some ⟨g,0,none⟩) 8 8∧g < w.heap.size∧RwW w g 0 [x0,x1,x2,x3,x4,x5,x6,x7]
 | 25,v,w =>v=wrV (orW [x0,x1,x2,x3,x4,x5,x6,x7])
 | _,v,w =>True
def zkU (j:Nat):Bool:=false
theorem y8 {B:Nat} {T:TV} {a0 a1 a2 a3 a4 a5 a6 a7:Option Addr} {c0 c1 c2 c3 c4 c5 c6 c7:Nat} {x0 x1 x2 x3 x4 x5 x6 x7:Int × Int × Int} {w w':World} (hb:Below w.heap.size w w'):∀ (j:Nat) (v:Value),mfD B T a0 a1 a2 a3 a4 a5 a6 a7 c0 c1 c2 c3 c4 c5 c6 c7 x0 x1 x2 x3 x4 x5 x6 x7 j v w→mfD B T a0 a1 a2 a3 a4 a5 a6 a7 c0 c1 c2 c3 c4 c5 c6 c7 x0 x1 x2 x3 x4 x5 x6 x7 j v w'
 | 0,v,h =>h
 | 1,v,h =>h
 | 2,v,h =>h
 | 3,v,h =>h
 | 4,v,h =>h
 | 5,v,h =>h
 | 6,v,h =>h
 | 7,v,h =>h
 | 8,v,h =>h
 | 9,v,h =>h
 | 10,v,h =>h
 | 11,v,h =>h
 | 12,v,h =>h
 | 13,v,h =>h
 | 14,v,h =>h
 | 15,v,h =>h
 | 16,v,h =>h
 | 17,v,h =>h
 | 18,v,h =>h
 | 19,v,h =>h
 | 20,v,h =>h
 | 21,v,h =>h
 | 22,v,h =>h
 | 23,v,h =>h
 | 24,v,h =>let ⟨g,e,h1,h2⟩:=h; ⟨g,e,zaY h1 hb.size,h2.below h1 hb⟩
 | 25,v,h =>h
 | _+26,v,h =>h
theorem y9 {B:Nat} {T:TV} {a0 a1 a2 a3 a4 a5 a6 a7:Option Addr} {c0 c1 c2 c3 c4 c5 c6 c7:Nat} {x0 x1 x2 x3 x4 x5 x6 x7:Int × Int × Int} {w:World} (j:Nat) (v:Value) (hm:zkU j=true) (h:mfD B T a0 a1 a2 a3 a4 a5 a6 a7 c0 c1 c2 c3 c4 c5 c6 c7 x0 x1 x2 x3 x4 x5 x6 x7 j v w):∀ b,v.ownBlock=some b→b < w.heap.size:=by
 cases hm
theorem zaG (T:TV) (hO:Jj T) (a0 a1 a2 a3 a4 a5 a6 a7:Option Addr) (c0 c1 c2 c3 c4 c5 c6 c7:Nat) (us:List Value) (W:World) (hT:TabIn W T a0 a1 a2 a3 a4 a5 a6 a7 us) :
  Calls Tryz.prog 83 #[.agg #[.slice a0 T.sc.length c0,.slice a1 T.co.length c1,.slice a2 T.ma.length c2,.slice a3 T.pr.length c3,.slice a4 T.fo.length c4,.slice a5 T.lk.length c5,.slice a6 T.dr.length c6,.slice a7 T.al.length c7]] W fun e w' =>e=.returned (wrV (yT T))∧Below W.heap.size W w':=by
 have hmx:=zdA
 have hB0:Below W.heap.size W ((W.alloc (.cells #[.slice a0 T.sc.length c0,.slice a1 T.co.length c1,.slice a2 T.ma.length c2,.slice a3 T.pr.length c3,.slice a4 T.fo.length c4,.slice a5 T.lk.length c5,.slice a6 T.dr.length c6,.slice a7 T.al.length c7] 31)).alloc (.cells #[.int .i64 0,.int .i64 0,.int .i64 0] 89)).drew:=(((Below.refl _ W).alloc zD _).alloc (by simp) _).trans ⟨rfl,rfl,rfl,zD,fun _ _ =>rfl⟩;have bA:Blk ((W.alloc (.cells #[.slice a0 T.sc.length c0,.slice a1 T.co.length c1,.slice a2 T.ma.length c2,.slice a3 T.pr.length c3,.slice a4 T.fo.length c4,.slice a5 T.lk.length c5,.slice a6 T.dr.length c6,.slice a7 T.al.length c7] 31)).alloc (.cells #[.int .i64 0,.int .i64 0,.int .i64 0] 89)).drew W.heap.size #[.slice a0 T.sc.length c0,.slice a1 T.co.length c1,.slice a2 T.ma.length c2,.slice a3 T.pr.length c3,.slice a4 T.fo.length c4,.slice a5 T.lk.length c5,.slice a6 T.dr.length c6,.slice a7 T.al.length c7] 31:=(Blk.new W #[.slice a0 T.sc.length c0,.slice a1 T.co.length c1,.slice a2 T.ma.length c2,.slice a3 T.pr.length c3,.slice a4 T.fo.length c4,.slice a5 T.lk.length c5,.slice a6 T.dr.length c6,.slice a7 T.al.length c7] 31).alloc _;have bR:Blk ((W.alloc (.cells #[.slice a0 T.sc.length c0,.slice a1 T.co.length c1,.slice a2 T.ma.length c2,.slice a3 T.pr.length c3,.slice a4 T.fo.length c4,.slice a5 T.lk.length c5,.slice a6 T.dr.length c6,.slice a7 T.al.length c7] 31)).alloc (.cells #[.int .i64 0,.int .i64 0,.int .i64 0] 89)).drew (W.heap.size+1) #[.int .i64 0,.int .i64 0,.int .i64 0] 89:=by
  have h:=Blk.new (W.alloc (.cells #[.slice a0 T.sc.length c0,.slice a1 T.co.length c1,.slice a2 T.ma.length c2,.slice a3 T.pr.length c3,.slice a4 T.fo.length c4,.slice a5 T.lk.length c5,.slice a6 T.dr.length c6,.slice a7 T.al.length c7] 31)) #[.int .i64 0,.int .i64 0,.int .i64 0] 89;rw [World.size_alloc] at h;exact h
 have hTF:TbF ((W.alloc (.cells #[.slice a0 T.sc.length c0,.slice a1 T.co.length c1,.slice a2 T.ma.length c2,.slice a3 T.pr.length c3,.slice a4 T.fo.length c4,.slice a5 T.lk.length c5,.slice a6 T.dr.length c6,.slice a7 T.al.length c7] 31)).alloc (.cells #[.int .i64 0,.int .i64 0,.int .i64 0] 89)).drew W.heap.size (W.heap.size+1) T a0 a1 a2 a3 a4 a5 a6 a7 c0 c1 c2 c3 c4 c5 c6 c7 us:=⟨bA,bR,hT.lower hB0⟩;have HF:Hz (∀ w1,Below ((W.alloc (.cells #[.slice a0 T.sc.length c0,.slice a1 T.co.length c1,.slice a2 T.ma.length c2,.slice a3 T.pr.length c3,.slice a4 T.fo.length c4,.slice a5 T.lk.length c5,.slice a6 T.dr.length c6,.slice a7 T.al.length c7] 31)).alloc (.cells #[.int .i64 0,.int .i64 0,.int .i64 0] 89)).drew.heap.size ((W.alloc (.cells #[.slice a0 T.sc.length c0,.slice a1 T.co.length c1,.slice a2 T.ma.length c2,.slice a3 T.pr.length c3,.slice a4 T.fo.length c4,.slice a5 T.lk.length c5,.slice a6 T.dr.length c6,.slice a7 T.al.length c7] 31)).alloc (.cells #[.int .i64 0,.int .i64 0,.int .i64 0] 89)).drew w1→TbF w1 W.heap.size (W.heap.size+1) T a0 a1 a2 a3 a4 a5 a6 a7 c0 c1 c2 c3 c4 c5 c6 c7 us):=kz (fun w1 h =>hTF.below h);have HB:=kz hB0;clear hB0 bA bR hTF hT;obtain ⟨x0,hx0⟩:∃ x,zg 1 T.sc sc0 scF=x:=⟨_,rfl⟩;obtain ⟨x1,hx1⟩:∃ x,spW 2 T.co=x:=⟨_,rfl⟩;obtain ⟨x2,hx2⟩:∃ x,zg 3 T.ma ma0 maF=x:=⟨_,rfl⟩;obtain ⟨x3,hx3⟩:∃ x,zg 4 T.pr pr0 prF=x:=⟨_,rfl⟩;obtain ⟨x4,hx4⟩:∃ x,zg 5 T.fo mp0 mpF=x:=⟨_,rfl⟩;obtain ⟨x5,hx5⟩:∃ x,zg 6 T.lk mp0 mpF=x:=⟨_,rfl⟩;obtain ⟨x6,hx6⟩:∃ x,spW 7 T.dr=x:=⟨_,rfl⟩;obtain ⟨x7,hx7⟩:∃ x,spW 8 T.al=x:=⟨_,rfl⟩;have HOK:Hz (∀ x ∈ [x0,x1,x2,x3,x4,x5,x6,x7],OkW x):=kz (by
  intro x hx;simp only [List.mem_cons,List.not_mem_nil,or_false] at hx;rcases hx with rfl | rfl | rfl | rfl | rfl | rfl | rfl | rfl
  ·rw [← hx0];exact zR _ _ _ _
  ·rw [← hx1];exact zbV _ _
  ·rw [← hx2];exact zR _ _ _ _
  ·rw [← hx3];exact zR _ _ _ _
  ·rw [← hx4];exact zR _ _ _ _
  ·rw [← hx5];exact zR _ _ _ _
  ·rw [← hx6];exact zbV _ _
  ·rw [← hx7];exact zbV _ _)
 have hfin:yT T=orW [x0,x1,x2,x3,x4,x5,x6,x7]:=by
  unfold yT;rw [hx0,hx1,hx2,hx3,hx4,hx5,hx6,hx7]
 rw [hfin];have HX0:=kz hx0;have HX1:=kz hx1;have HX2:=kz hx2;have HX3:=kz hx3;have HX4:=kz hx4;have HX5:=kz hx5;have HX6:=kz hx6;have HX7:=kz hx7;clear hfin hx0 hx1 hx2 hx3 hx4 hx5 hx6 hx7;go_enter Tryz.func83,Tryz.ntmps83;go_wp2_with fail
 generalize (W.alloc _).alloc _=w0 at *;refine zn hmx 26 (by decide) (by kernel_rfl) (by kernel_rfl) (fun l a w => ∃ U:Nat→Value,a = { tmps:=#[.agg #[.slice a0 T.sc.length c0,.slice a1 T.co.length c1,.slice a2 T.ma.length c2,.slice a3 T.pr.length c3,.slice a4 T.fo.length c4,.slice a5 T.lk.length c5,.slice a6 T.dr.length c6,.slice a7 T.al.length c7],.pointer (some ⟨W.heap.size,0,none⟩),.pointer (some ⟨W.heap.size+1,0,none⟩),U 0,U 1,U 2,U 3,U 4,U 5,U 6,U 7,U 8,U 9,U 10,U 11,U 12,U 13,U 14,U 15,U 16,U 17,U 18,U 19,U 20,U 21,U 22,U 23,U 24,U 25],defers := [] }∧RgJ (w0.drew) (w0.drew.heap.size) (mfD W.heap.size T a0 a1 a2 a3 a4 a5 a6 a7 c0 c1 c2 c3 c4 c5 c6 c7 x0 x1 x2 x3 x4 x5 x6 x7) zkU l U w) ⟨fun _ =>undef,rfl,RgJ.start _ _ zD⟩ ?_ ?_
 ·rintro l a w i ⟨U,rfl,hJ⟩ hl hi hif;have h0:=(mem_ready.1 hi).1;have hlt:=Xo hl h0;have HJ:=kz hJ;clear hJ hl
  replace hlt:i < 27:=hlt
  obtain rfl | rfl | rfl | rfl | rfl | rfl | rfl | rfl | rfl | rfl | rfl | rfl | rfl | rfl | rfl | rfl | rfl | rfl | rfl | rfl | rfl | rfl | rfl | rfl | rfl | rfl:i=0∨i=1∨i=2∨i=3∨i=4∨i=5∨i=6∨i=7∨i=8∨i=9∨i=10∨i=11∨i=12∨i=13∨i=14∨i=15∨i=16∨i=17∨i=18∨i=19∨i=20∨i=21∨i=22∨i=23∨i=24∨i=25:=by omega
  any_goals refine Ky rfl (fun K hK =>?_)
  ·clear hlt hif;go_simp;exact hK _ _ ⟨za U 0 _,rfl,(oz HJ).put 0 _ h0 zl (y8 zl) rfl y9 (zJ rfl)⟩
  ·clear hlt hif;have d0:U 0=.pointer (some ⟨W.heap.size,0,none⟩):=(oz HJ).val 0 (zb hi 0 (by kernel_rfl));have q0:=(oz HF w (oz HJ).bel).bx.cell 0;go_simp;exact hK _ _ ⟨za U 1 _,(by rw [zc d0];rfl),(oz HJ).put 1 _ h0 zl (y8 zl) rfl y9 (zJ rfl)⟩
  ·clear hlt hif;have d1:U 1=.slice a0 T.sc.length c0:=(oz HJ).val 1 (zb hi 1 (by kernel_rfl));have hf:=oz HF w (oz HJ).bel;go_simp;refine (zgf T.sc us hf.ti.lu hO.n0 hO.z0 _ _ _ hf.ti.r0 hf.ti.rs).mono ?_;rw [oz HX0];rintro e w' ⟨rfl,hb⟩;exact hK _ _ ⟨za U 2 _,(by rw [zc d1];rfl),(oz HJ).put 2 _ h0 hb (y8 hb) rfl y9 (zJ rfl)⟩
  ·clear hlt hif;go_simp;exact hK _ _ ⟨za U 3 _,rfl,(oz HJ).put 3 _ h0 zl (y8 zl) rfl y9 (zJ rfl)⟩
  ·clear hlt hif;have d3:U 3=.pointer (some ⟨W.heap.size,1,none⟩):=(oz HJ).val 3 (zb hi 3 (by kernel_rfl));have q0:=(oz HF w (oz HJ).bel).bx.cell 1;go_simp;exact hK _ _ ⟨za U 4 _,(by rw [zc d3];rfl),(oz HJ).put 4 _ h0 zl (y8 zl) rfl y9 (zJ rfl)⟩
  ·clear hlt hif;have d4:U 4=.slice a1 T.co.length c1:=(oz HJ).val 4 (zb hi 4 (by kernel_rfl));have hf:=oz HF w (oz HJ).bel;go_simp;refine (Ys 2 T.co hO.n1 _ _ _ (YB hf.ti.r1 zD)).mono ?_;rw [oz HX1];rintro e w' ⟨rfl,hb⟩;exact hK _ _ ⟨za U 5 _,(by rw [zc d4];rfl),(oz HJ).put 5 _ h0 hb (y8 hb) rfl y9 (zJ rfl)⟩
  ·clear hlt hif;go_simp;exact hK _ _ ⟨za U 6 _,rfl,(oz HJ).put 6 _ h0 zl (y8 zl) rfl y9 (zJ rfl)⟩
  ·clear hlt hif;have d6:U 6=.pointer (some ⟨W.heap.size,2,none⟩):=(oz HJ).val 6 (zb hi 6 (by kernel_rfl));have q0:=(oz HF w (oz HJ).bel).bx.cell 2;go_simp;exact hK _ _ ⟨za U 7 _,(by rw [zc d6];rfl),(oz HJ).put 7 _ h0 zl (y8 zl) rfl y9 (zJ rfl)⟩
  ·clear hlt hif;have d7:U 7=.slice a2 T.ma.length c2:=(oz HJ).val 7 (zb hi 7 (by kernel_rfl));have hf:=oz HF w (oz HJ).bel;go_simp;refine (zjv T.ma hO.n2 _ _ _ hf.ti.r2).mono ?_;rw [oz HX2];rintro e w' ⟨rfl,hb⟩;exact hK _ _ ⟨za U 8 _,(by rw [zc d7];rfl),(oz HJ).put 8 _ h0 hb (y8 hb) rfl y9 (zJ rfl)⟩
  ·clear hlt hif;go_simp;exact hK _ _ ⟨za U 9 _,rfl,(oz HJ).put 9 _ h0 zl (y8 zl) rfl y9 (zJ rfl)⟩
  ·clear hlt hif;have d9:U 9=.pointer (some ⟨W.heap.size,3,none⟩):=(oz HJ).val 9 (zb hi 9 (by kernel_rfl));have q0:=(oz HF w (oz HJ).bel).bx.cell 3;go_simp;exact hK _ _ ⟨za U 10 _,(by rw [zc d9];rfl),(oz HJ).put 10 _ h0 zl (y8 zl) rfl y9 (zJ rfl)⟩
  ·clear hlt hif;have d10:U 10=.slice a3 T.pr.length c3:=(oz HJ).val 10 (zb hi 10 (by kernel_rfl));have hf:=oz HF w (oz HJ).bel;go_simp;refine (zju T.pr hO.n3 _ _ _ hf.ti.r3).mono ?_;rw [oz HX3];rintro e w' ⟨rfl,hb⟩;exact hK _ _ ⟨za U 11 _,(by rw [zc d10];rfl),(oz HJ).put 11 _ h0 hb (y8 hb) rfl y9 (zJ rfl)⟩
  ·clear hlt hif;go_simp;exact hK _ _ ⟨za U 12 _,rfl,(oz HJ).put 12 _ h0 zl (y8 zl) rfl y9 (zJ rfl)⟩
  ·clear hlt hif;have d12:U 12=.pointer (some ⟨W.heap.size,4,none⟩):=(oz HJ).val 12 (zb hi 12 (by kernel_rfl));have q0:=(oz HF w (oz HJ).bel).bx.cell 4;go_simp;exact hK _ _ ⟨za U 13 _,(by rw [zc d12];rfl),(oz HJ).put 13 _ h0 zl (y8 zl) rfl y9 (zJ rfl)⟩
  ·clear hlt hif;have d13:U 13=.slice a4 T.fo.length c4:=(oz HJ).val 13 (zb hi 13 (by kernel_rfl));have hf:=oz HF w (oz HJ).bel;go_simp;refine (zix 5 T.fo hO.n4 hO.z4 _ _ _ hf.ti.r4).mono ?_;rw [oz HX4];rintro e w' ⟨rfl,hb⟩;exact hK _ _ ⟨za U 14 _,(by rw [zc d13];rfl),(oz HJ).put 14 _ h0 hb (y8 hb) rfl y9 (zJ rfl)⟩
  ·clear hlt hif;go_simp;exact hK _ _ ⟨za U 15 _,rfl,(oz HJ).put 15 _ h0 zl (y8 zl) rfl y9 (zJ rfl)⟩
  ·clear hlt hif;have d15:U 15=.pointer (some ⟨W.heap.size,5,none⟩):=(oz HJ).val 15 (zb hi 15 (by kernel_rfl));have q0:=(oz HF w (oz HJ).bel).bx.cell 5;go_simp;exact hK _ _ ⟨za U 16 _,(by rw [zc d15];rfl),(oz HJ).put 16 _ h0 zl (y8 zl) rfl y9 (zJ rfl)⟩
  ·clear hlt hif;have d16:U 16=.slice a5 T.lk.length c5:=(oz HJ).val 16 (zb hi 16 (by kernel_rfl));have hf:=oz HF w (oz HJ).bel;go_simp;refine (zix 6 T.lk hO.n5 hO.z5 _ _ _ hf.ti.r5).mono ?_;rw [oz HX5];rintro e w' ⟨rfl,hb⟩;exact hK _ _ ⟨za U 17 _,(by rw [zc d16];rfl),(oz HJ).put 17 _ h0 hb (y8 hb) rfl y9 (zJ rfl)⟩
  ·clear hlt hif;go_simp;exact hK _ _ ⟨za U 18 _,rfl,(oz HJ).put 18 _ h0 zl (y8 zl) rfl y9 (zJ rfl)⟩
  ·clear hlt hif;have d18:U 18=.pointer (some ⟨W.heap.size,6,none⟩):=(oz HJ).val 18 (zb hi 18 (by kernel_rfl));have q0:=(oz HF w (oz HJ).bel).bx.cell 6;go_simp;exact hK _ _ ⟨za U 19 _,(by rw [zc d18];rfl),(oz HJ).put 19 _ h0 zl (y8 zl) rfl y9 (zJ rfl)⟩
  ·clear hlt hif;have d19:U 19=.slice a6 T.dr.length c6:=(oz HJ).val 19 (zb hi 19 (by kernel_rfl));have hf:=oz HF w (oz HJ).bel;go_simp;refine (Ys 7 T.dr hO.n6 _ _ _ (YB hf.ti.r6 zD)).mono ?_;rw [oz HX6];rintro e w' ⟨rfl,hb⟩;exact hK _ _ ⟨za U 20 _,(by rw [zc d19];rfl),(oz HJ).put 20 _ h0 hb (y8 hb) rfl y9 (zJ rfl)⟩
  ·clear hlt hif;go_simp;exact hK _ _ ⟨za U 21 _,rfl,(oz HJ).put 21 _ h0 zl (y8 zl) rfl y9 (zJ rfl)⟩
  ·clear hlt hif;have d21:U 21=.pointer (some ⟨W.heap.size,7,none⟩):=(oz HJ).val 21 (zb hi 21 (by kernel_rfl));have q0:=(oz HF w (oz HJ).bel).bx.cell 7;go_simp;exact hK _ _ ⟨za U 22 _,(by rw [zc d21];rfl),(oz HJ).put 22 _ h0 zl (y8 zl) rfl y9 (zJ rfl)⟩
  ·clear hlt hif;have d22:U 22=.slice a7 T.al.length c7:=(oz HJ).val 22 (zb hi 22 (by kernel_rfl));have hf:=oz HF w (oz HJ).bel;go_simp;refine (Ys 8 T.al hO.n7 _ _ _ (YB hf.ti.r7 zD)).mono ?_;rw [oz HX7];rintro e w' ⟨rfl,hb⟩;exact hK _ _ ⟨za U 23 _,(by rw [zc d22];rfl),(oz HJ).put 23 _ h0 hb (y8 hb) rfl y9 (zJ rfl)⟩
  ·clear hlt hif;have d2:U 2=wrV x0:=(oz HJ).val 2 (zb hi 2 (by kernel_rfl));have d5:U 5=wrV x1:=(oz HJ).val 5 (zb hi 5 (by kernel_rfl));have d8:U 8=wrV x2:=(oz HJ).val 8 (zb hi 8 (by kernel_rfl));have d11:U 11=wrV x3:=(oz HJ).val 11 (zb hi 11 (by kernel_rfl));have d14:U 14=wrV x4:=(oz HJ).val 14 (zb hi 14 (by kernel_rfl));have d17:U 17=wrV x5:=(oz HJ).val 17 (zb hi 17 (by kernel_rfl));have d20:U 20=wrV x6:=(oz HJ).val 20 (zb hi 20 (by kernel_rfl));have d23:U 23=wrV x7:=(oz HJ).val 23 (zb hi 23 (by kernel_rfl));unfold wrV at d2 d5 d8 d11 d14 d17 d20 d23;go_simp;exact hK _ _ ⟨za U 24 _,(by rw [zc d2,zc d5,zc d8,zc d11,zc d14,zc d17,zc d20,zc d23];rfl),(oz HJ).put 24 _ h0 (zl.alloc zD _) (y8 (zl.alloc zD _)) ⟨_,rfl,by simp,X0 w _ [x0,x1,x2,x3,x4,x5,x6,x7] _ _ rfl rfl⟩ y9 (zJ rfl)⟩
  ·clear hlt hif;obtain ⟨g24,d24,l24,h24⟩:=(oz HJ).val 24 (zb hi 24 (by kernel_rfl));go_simp;refine (qT [x0,x1,x2,x3,x4,x5,x6,x7] (by simp) (oz HOK) _ 0 _ _ l24 h24).mono ?_;rintro e w' ⟨rfl,hb⟩;exact hK _ _ ⟨za U 25 _,(by rw [zc d24];rfl),(oz HJ).put 25 _ h0 hb (y8 hb) rfl y9 (zJ rfl)⟩
 ·rintro l a w ⟨U,rfl,hJ⟩ hall;have d25:U 25=wrV (orW [x0,x1,x2,x3,x4,x5,x6,x7]):=hJ.val 25 (hall 25 (by decide) (by decide));have HBJ:=kz (yB ((oz HB).trans (hJ.bel.mono (oz HB).size)) (oz HF w hJ.bel).rs);clear hJ hall;refine Ky rfl (fun K hK =>?_);obtain ⟨y,hy⟩:∃ y,orW [x0,x1,x2,x3,x4,x5,x6,x7]=y:=⟨_,rfl⟩;rw [hy] at d25;have HY:=kz hy;clear hy;obtain ⟨y0,y1,y2⟩:=y;unfold wrV at d25;have r0:=(oz HBJ).2.cell 0;have f0:=(oz HBJ).2.frozen 0;have r1:=(oz HBJ).2.cell 1;have f1:=(oz HBJ).2.frozen 1;have r2:=(oz HBJ).2.cell 2;have f2:=(oz HBJ).2.frozen 2;go_simp;refine hK _ _ ?_;clear hK;go_wp2_with fail
  exact XS (v:=wrV (y0,y1,y2)) (jA Tryz.results83 rfl (jG (oz HBJ).2 _ _ _) rfl) rfl ⟨by rw [oz HY],zY (oz HBJ).1 (by omega) (oz HBJ).1.size _ _ _⟩
end Go.Proofs.YthchopdfmchpkaaGreat
