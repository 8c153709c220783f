/- A Book of tables: how rows don't stand together, list by list. -/
import Derived.Test.YthchopdfmchpkaaGreatM20
namespace Go.Proofs.YthchopdfmchpkaaGreat
open Go.RowKit Go.Shelf Go.Maps
set_option linter.unusedVariables false
set_option maxRecDepth 100000
set_option maxHeartbeats 8000000
theorem zdo (zs:List (Int × Int)) (hn:zs.length≤1000000) (list:Int) (F:(Int × Int)→Int) (G:Nat) (lb:Array Value) (eg:∀ args w,(callFunc G args).run Tryz.prog w=.ok (.enter G args) w) (J:World→Prop) (hst:∀ w w',J w→Below w.heap.size w w'→J w')
  (hcall:∀ x ∈ zs, ∀ w,J w→Calls Tryz.prog G (#[.agg #[.int .i32 x.1,.int .i64 x.2]]++lb) w fun e w' =>e=.returned (.int .i64 (F x))∧Below w.heap.size w w') (a:Option Addr) (c:Nat) (W:World) (hJ:J W) (hr:RowC W W.heap.size a (XP zs)) :
  Calls Tryz.prog 127 #[.int .i64 list,.slice a zs.length c,.func (.func G) #[] lb] W fun e w' =>e=.returned (wrV (zg list zs ma0 F))∧Below W.heap.size W w' :=
 (Y2 list zs hn a c G lb eg (fun i =>F (zs.getD i ma0)) noX (fun _ w =>J w) W.heap.size W zD (fun b h =>h.elim) hr hJ (fun _ w w' h hb =>hst w w' h hb) (fun i x w hx hk hw =>by
  show Calls Tryz.prog _ _ w fun e w' =>e=.returned (.int .i64 (F (zs.getD i ma0)))∧_
  rw [Xd ma0 hx];exact (hcall x (YH hx) w hw).mono (fun e w' ⟨he,hb⟩ =>⟨he,hst _ _ hw hb,zt hb noX⟩))).mono (fun e w' ⟨he,hk⟩ =>⟨he,hk.below⟩)
theorem zar (zs:List (Int × Int × Int)) (hn:zs.length≤1000000) (list:Int) (F:(Int × Int × Int)→Int) (G:Nat) (lb:Array Value) (eg:∀ args w,(callFunc G args).run Tryz.prog w=.ok (.enter G args) w) (J:World→Prop) (hst:∀ w w',J w→Below w.heap.size w w'→J w')
  (hcall:∀ x ∈ zs, ∀ w,J w→Calls Tryz.prog G (#[.agg #[.int .i32 x.1,.int .i32 x.2.1,.int .i32 x.2.2]]++lb) w fun e w' =>e=.returned (.int .i64 (F x))∧Below w.heap.size w w') (a:Option Addr) (c:Nat) (W:World) (hJ:J W) (hr:RowC W W.heap.size a (Xh zs)) :
  Calls Tryz.prog 129 #[.int .i64 list,.slice a zs.length c,.func (.func G) #[] lb] W fun e w' =>e=.returned (wrV (zg list zs pr0 F))∧Below W.heap.size W w' :=
 (Y1 list zs hn a c G lb eg (fun i =>F (zs.getD i pr0)) noX (fun _ w =>J w) W.heap.size W zD (fun b h =>h.elim) hr hJ (fun _ w w' h hb =>hst w w' h hb) (fun i x w hx hk hw =>by
  show Calls Tryz.prog _ _ w fun e w' =>e=.returned (.int .i64 (F (zs.getD i pr0)))∧_
  rw [Xd pr0 hx];exact (hcall x (YH hx) w hw).mono (fun e w' ⟨he,hb⟩ =>⟨he,hst _ _ hw hb,zt hb noX⟩))).mono (fun e w' ⟨he,hk⟩ =>⟨he,hk.below⟩)
theorem Y8 (zs:List (Int × ByteArray)) (hn:zs.length≤1000000) (list:Int) (F:(Int × ByteArray)→Int) (G:Nat) (lb:Array Value) (eg:∀ args w,(callFunc G args).run Tryz.prog w=.ok (.enter G args) w) (J:World→Prop) (hst:∀ w w',J w→Below w.heap.size w w'→J w')
  (hcall:∀ x ∈ zs, ∀ w,J w→Calls Tryz.prog G (#[.agg #[.int .i32 x.1,.string x.2]]++lb) w fun e w' =>e=.returned (.int .i64 (F x))∧Below w.heap.size w w') (a:Option Addr) (c:Nat) (W:World) (hJ:J W) (hr:RowC W W.heap.size a (yW zs)) :
  Calls Tryz.prog 131 #[.int .i64 list,.slice a zs.length c,.func (.func G) #[] lb] W fun e w' =>e=.returned (wrV (zg list zs mp0 F))∧Below W.heap.size W w' :=
 (Zs list zs hn a c G lb eg (fun i =>F (zs.getD i mp0)) noX (fun _ w =>J w) W.heap.size W zD (fun b h =>h.elim) hr hJ (fun _ w w' h hb =>hst w w' h hb) (fun i x w hx hk hw =>by
  show Calls Tryz.prog _ _ w fun e w' =>e=.returned (.int .i64 (F (zs.getD i mp0)))∧_
  rw [Xd mp0 hx];exact (hcall x (YH hx) w hw).mono (fun e w' ⟨he,hb⟩ =>⟨he,hst _ _ hw hb,zt hb noX⟩))).mono (fun e w' ⟨he,hk⟩ =>⟨he,hk.below⟩)
theorem zdn (zs:List (Int × Int)) (hn:zs.length≤1000000) (list:Int) (F:(Int × Int)→Int) (G:Nat) (lb:Array Value) (eg:∀ args w,(callFunc G args).run Tryz.prog w=.ok (.enter G args) w) (J:World→Prop) (hst:∀ w w',J w→Below w.heap.size w w'→J w')
  (hcall:∀ x ∈ zs, ∀ w,J w→Calls Tryz.prog G (#[.agg #[.int .i32 x.1,.int .i32 x.2]]++lb) w fun e w' =>e=.returned (.int .i64 (F x))∧Below w.heap.size w w') (a:Option Addr) (c:Nat) (W:World) (hJ:J W) (hr:RowC W W.heap.size a (zM zs)) :
  Calls Tryz.prog 175 #[.int .i64 list,.slice a zs.length c,.func (.func G) #[] lb] W fun e w' =>e=.returned (wrV (zg list zs ma0 F))∧Below W.heap.size W w' :=
 (zaL list zs hn a c G lb eg (fun i =>F (zs.getD i ma0)) noX (fun _ w =>J w) W.heap.size W zD (fun b h =>h.elim) hr hJ (fun _ w w' h hb =>hst w w' h hb) (fun i x w hx hk hw =>by
  show Calls Tryz.prog _ _ w fun e w' =>e=.returned (.int .i64 (F (zs.getD i ma0)))∧_
  rw [Xd ma0 hx];exact (hcall x (YH hx) w hw).mono (fun e w' ⟨he,hb⟩ =>⟨he,hst _ _ hw hb,zt hb noX⟩))).mono (fun e w' ⟨he,hk⟩ =>⟨he,hk.below⟩)
theorem zgg (zs:List (Int × Int × Int)) (hn:zs.length≤1000000) (list:Int) (F:(Int × Int × Int)→Int) (G:Nat) (fs lb:Array Value) (eg:∀ args w,(callFunc G args).run Tryz.prog w=.ok (.enter G args) w) (J:World→Prop) (hst:∀ w w',J w→Below w.heap.size w w'→J w')
  (hcall:∀ x ∈ zs, ∀ w,J w→Calls Tryz.prog G (fs++#[.agg #[.int .i32 x.1,.int .i32 x.2.1,.int .i32 x.2.2]]++lb) w fun e w' =>e=.returned (.int .i64 (F x))∧Below w.heap.size w w') (a:Option Addr) (c:Nat) (W:World) (hJ:J W) (hr:RowC W W.heap.size a (Xh zs)) :
  Calls Tryz.prog 129 #[.int .i64 list,.slice a zs.length c,.func (.func G) fs lb] W fun e w' =>e=.returned (wrV (zg list zs pr0 F))∧Below W.heap.size W w' :=
 (KE list zs hn a c G fs lb eg (fun i =>F (zs.getD i pr0)) noX (fun _ w =>J w) W.heap.size W zD (fun b h =>h.elim) hr hJ (fun _ w w' h hb =>hst w w' h hb) (fun i x w hx hk hw =>by
  show Calls Tryz.prog _ _ w fun e w' =>e=.returned (.int .i64 (F (zs.getD i pr0)))∧_
  rw [Xd pr0 hx];exact (hcall x (YH hx) w hw).mono (fun e w' ⟨he,hb⟩ =>⟨he,hst _ _ hw hb,zt hb noX⟩))).mono (fun e w' ⟨he,hk⟩ =>⟨he,hk.below⟩)
structure StF (w:World) (BB R B:Nat) (T:TV) (a0 a1 a2 a3 a4 a5 a6 a7:Option Addr) (c0 c1 c2 c3 c4 c5 c6 c7:Nat) (us:List Value):Prop where
 bp:BkP w BB B T
 rs:Blk w R #[.int .i64 0,.int .i64 0,.int .i64 0] 89
 tb:BkT w B T a0 a1 a2 a3 a4 a5 a6 a7 c0 c1 c2 c3 c4 c5 c6 c7 us
theorem StF.below {w w':World} {BB R B:Nat} {T:TV} {a0 a1 a2 a3 a4 a5 a6 a7:Option Addr} {c0 c1 c2 c3 c4 c5 c6 c7:Nat} {us:List Value} (h:StF w BB R B T a0 a1 a2 a3 a4 a5 a6 a7 c0 c1 c2 c3 c4 c5 c6 c7 us) (hb:Below w.heap.size w w'):StF w' BB R B T a0 a1 a2 a3 a4 a5 a6 a7 c0 c1 c2 c3 c4 c5 c6 c7 us :=
 ⟨h.bp.below hb,h.rs.below hb h.rs.lt,h.tb.below hb⟩
structure StG (w:World) (R B:Nat) (T:TV) (a0 a1 a2 a3 a4 a5 a6 a7:Option Addr) (c0 c1 c2 c3 c4 c5 c6 c7:Nat) (us:List Value):Prop where
 bk:BookAt w B T
 rs:Blk w R #[.int .i64 0,.int .i64 0,.int .i64 0] 89
 tb:BkT w B T a0 a1 a2 a3 a4 a5 a6 a7 c0 c1 c2 c3 c4 c5 c6 c7 us
theorem StG.below {w w':World} {R B:Nat} {T:TV} {a0 a1 a2 a3 a4 a5 a6 a7:Option Addr} {c0 c1 c2 c3 c4 c5 c6 c7:Nat} {us:List Value} (h:StG w R B T a0 a1 a2 a3 a4 a5 a6 a7 c0 c1 c2 c3 c4 c5 c6 c7 us) (hb:Below w.heap.size w w'):StG w' R B T a0 a1 a2 a3 a4 a5 a6 a7 c0 c1 c2 c3 c4 c5 c6 c7 us :=
 ⟨h.bk.below hb,h.rs.below hb h.rs.lt,h.tb.below hb⟩
theorem JL {t:ByteArray} {r:Int} (hr:r ∈ zk t):zm r=true:=by
 unfold zk at hr;obtain ⟨i,_,rfl⟩:=List.mem_map.1 hr;have h1:=ze6 t i;have h2:=XT ((rn t i:Nat):Int);cases h3:zm ((rn t i:Nat):Int) with
 | true =>rfl
 | false =>
  rw [h3] at h2;exact absurd (by simpa using h2) h1
theorem zc6 {t:ByteArray} (r:Int) (hr:r ∈ zk t):R32 r:=Xc (JL hr)
theorem Qf {s:ByteArray} (h:toB s=true):(zk s).length≤1000000:=by
 have:=Jn h;omega
theorem Kn {T:TV} (hO:zx T) (B:Nat) (W:World) (h:BookAt W B T):Calls Tryz.prog 88 #[.pointer (some ⟨B,0,none⟩)] W fun e w' =>e=.returned (wrV (jQ T))∧Below W.heap.size W w':=by
 have hmf:=zkv
 have hB0:Below W.heap.size W ((W.alloc (.cells #[.pointer (some ⟨B,0,none⟩)] 22)).alloc (.cells #[.int .i64 0,.int .i64 0,.int .i64 0] 89)):=((Below.refl _ W).alloc zD _).alloc (by simp) _;have bB:Blk ((W.alloc (.cells #[.pointer (some ⟨B,0,none⟩)] 22)).alloc (.cells #[.int .i64 0,.int .i64 0,.int .i64 0] 89)) W.heap.size #[.pointer (some ⟨B,0,none⟩)] 22:=(Blk.new W _ _).alloc _;have bR:Blk ((W.alloc (.cells #[.pointer (some ⟨B,0,none⟩)] 22)).alloc (.cells #[.int .i64 0,.int .i64 0,.int .i64 0] 89)) (W.heap.size+1) #[.int .i64 0,.int .i64 0,.int .i64 0] 89:=by
  have h:=Blk.new (W.alloc (.cells #[.pointer (some ⟨B,0,none⟩)] 22)) #[.int .i64 0,.int .i64 0,.int .i64 0] 89;rw [World.size_alloc] at h;exact h
 obtain ⟨a0,a1,a2,a3,a4,a5,a6,a7,c0,c1,c2,c3,c4,c5,c6,c7,us,tb⟩:=h.tabs;have hS:StF ((W.alloc (.cells #[.pointer (some ⟨B,0,none⟩)] 22)).alloc (.cells #[.int .i64 0,.int .i64 0,.int .i64 0] 89)) W.heap.size (W.heap.size+1) B T a0 a1 a2 a3 a4 a5 a6 a7 c0 c1 c2 c3 c4 c5 c6 c7 us:=⟨⟨bB,h.below hB0⟩,bR,tb.below hB0⟩;have b0:=bB.cell 0;have k3:=hS.tb.k3;have HC:=kz (zar T.pr (by have:=hO.l3;omega) 4 (prE T) 153 #[.pointer (some ⟨W.heap.size,0,none⟩)] (enters_of Tryz.func153 (by kernel_rfl) rfl) (fun w =>BkP w W.heap.size B T) (fun _ _ h hb =>h.below hb) (fun x hx w hw =>zeC hO W.heap.size B x.1 x.2.1 x.2.2 (Xc (hO.f3 x hx).1) (Xc (hO.f3 x hx).2.1) (Xc (hO.f3 x hx).2.2) w hw) a3 c3 _ hS.bp hS.tb.ti.r3);rw [show zg 4 T.pr pr0 (prE T)=jQ T from rfl] at HC;have HS:=kz (yB hB0 hS);clear hB0 bB bR h tb hS hO;generalize jQ T=y at *;obtain ⟨y0,y1,y2⟩:=y;unfold wrV at HC;dsimp only at HC;go_enter Tryz.func88,Tryz.ntmps88;go_wp2_with fail
 refine (oz HC).mono ?_;rintro e w' ⟨rfl,hb⟩;have HS2:=kz (yB ((oz HS).1.trans (hb.mono (oz HS).1.size)) ((oz HS).2.below hb).rs);clear hb HC HS b0 k3;have r0:=(oz HS2).2.cell 0;have r1:=(oz HS2).2.cell 1;have r2:=(oz HS2).2.cell 2;have f0:=(oz HS2).2.frozen 0;have f1:=(oz HS2).2.frozen 1;have f2:=(oz HS2).2.frozen 2;go_wp2_with fail
 exact XS (v:=wrV (y0,y1,y2)) (jA Tryz.results88 rfl (jG (oz HS2).2 _ _ _) rfl) rfl ⟨rfl,zY (oz HS2).1 (by omega) (oz HS2).1.size _ _ _⟩
theorem zaS {T:TV} (hO:zx T) (B:Nat) (W:World) (h:BookAt W B T):Calls Tryz.prog 89 #[.pointer (some ⟨B,0,none⟩)] W fun e w' =>e=.returned (wrV (XH T))∧Below W.heap.size W w':=by
 have hmf:=zkv
 have hB0:Below W.heap.size W (W.alloc (.cells #[.int .i64 0,.int .i64 0,.int .i64 0] 89)):=(Below.refl _ W).alloc zD _;have bR:Blk (W.alloc (.cells #[.int .i64 0,.int .i64 0,.int .i64 0] 89)) W.heap.size #[.int .i64 0,.int .i64 0,.int .i64 0] 89:=Blk.new W _ _;obtain ⟨a0,a1,a2,a3,a4,a5,a6,a7,c0,c1,c2,c3,c4,c5,c6,c7,us,tb⟩:=h.tabs;have hS:StG (W.alloc (.cells #[.int .i64 0,.int .i64 0,.int .i64 0] 89)) W.heap.size B T a0 a1 a2 a3 a4 a5 a6 a7 c0 c1 c2 c3 c4 c5 c6 c7 us:=⟨h.below hB0,bR,tb.below hB0⟩;have k3:=hS.tb.k3;have HC:=kz (zgg T.pr (by have:=hO.l3;omega) 4 (prR T) 154 #[.pointer (some ⟨B,0,none⟩)] #[] (enters_of Tryz.func154 (by kernel_rfl) rfl) (fun w =>BookAt w B T) (fun _ _ h hb =>h.below hb) (fun x hx w hw =>zcS hO B x hx w hw) a3 c3 _ hS.bk hS.tb.ti.r3);rw [show zg 4 T.pr pr0 (prR T)=XH T from rfl] at HC;have HS:=kz (yB hB0 hS);clear hB0 bR h tb hS hO;generalize XH T=y at *;obtain ⟨y0,y1,y2⟩:=y;unfold wrV at HC;dsimp only at HC;go_enter Tryz.func89,Tryz.ntmps89;go_wp2_with fail
 refine (oz HC).mono ?_;rintro e w' ⟨rfl,hb⟩;have HS2:=kz (yB ((oz HS).1.trans (hb.mono (oz HS).1.size)) ((oz HS).2.below hb).rs);clear hb HC HS k3;have r0:=(oz HS2).2.cell 0;have r1:=(oz HS2).2.cell 1;have r2:=(oz HS2).2.cell 2;have f0:=(oz HS2).2.frozen 0;have f1:=(oz HS2).2.frozen 1;have f2:=(oz HS2).2.frozen 2;go_wp2_with fail
 exact XS (v:=wrV (y0,y1,y2)) (jA Tryz.results89 rfl (jG (oz HS2).2 _ _ _) rfl) rfl ⟨rfl,zY (oz HS2).1 zD (oz HS2).1.size _ _ _⟩
def unD (W0s B:Nat) (T:TV) (a0 a1 a2 a3 a4 a5 a6 a7:Option Addr) (c0 c1 c2 c3 c4 c5 c6 c7:Nat) (x0 x1 x2 x3:Int × Int × Int):Nat→Value→World→Prop
 | 0,v,w =>v=.pointer (some ⟨B,0,none⟩)
 | 1,v,w =>v=.pointer (some ⟨B,0,none⟩)
 | 2,v,w =>v=.pointer (some ⟨B,0,none⟩)
 | 3,v,w =>v=.pointer (some ⟨B,2,none⟩)
 | 4,v,w =>v=.slice a2 T.ma.length c2
 | 5,v,w =>v=.func (.func 157) #[] #[.pointer (some ⟨W0s,0,none⟩)]
 | 6,v,w =>v=wrV x0
 | 7,v,w =>v=.pointer (some ⟨B,0,none⟩)
 | 8,v,w =>v=.pointer (some ⟨B,0,none⟩)
 | 9,v,w =>v=.pointer (some ⟨B,0,none⟩)
 | 10,v,w =>v=.pointer (some ⟨B,3,none⟩)
 | 11,v,w =>v=.slice a3 T.pr.length c3
 | 12,v,w =>v=.func (.func 158) #[] #[.pointer (some ⟨W0s,0,none⟩)]
 | 13,v,w =>v=wrV x1
 | 14,v,w =>v=.pointer (some ⟨B,0,none⟩)
 | 15,v,w =>v=.pointer (some ⟨B,0,none⟩)
 | 16,v,w =>v=.pointer (some ⟨B,0,none⟩)
 | 17,v,w =>v=.pointer (some ⟨B,4,none⟩)
 | 18,v,w =>v=.slice a4 T.fo.length c4
 | 19,v,w =>v=.func (.func 155) #[] #[.pointer (some ⟨W0s,0,none⟩)]
 | 20,v,w =>v=wrV x2
 | 21,v,w =>v=.pointer (some ⟨B,0,none⟩)
 | 22,v,w =>v=.pointer (some ⟨B,0,none⟩)
 | 23,v,w =>v=.pointer (some ⟨B,0,none⟩)
 | 24,v,w =>v=.pointer (some ⟨B,5,none⟩)
 | 25,v,w =>v=.slice a5 T.lk.length c5
 | 26,v,w =>v=.func (.func 155) #[] #[.pointer (some ⟨W0s,0,none⟩)]
 | 27,v,w =>v=wrV x3
 | 28,v,w => ∃ g,v=.slice (some ⟨g,0,none⟩) 4 4∧g < w.heap.size∧RwW w g 0 [x0,x1,x2,x3]
 | 29,v,w =>v=wrV (orW [x0,x1,x2,x3])
 | _,v,w =>True
def zkM (j:Nat):Bool:=false
theorem yR {W0s B:Nat} {T:TV} {a0 a1 a2 a3 a4 a5 a6 a7:Option Addr} {c0 c1 c2 c3 c4 c5 c6 c7:Nat} {x0 x1 x2 x3:Int × Int × Int} {w w':World} (hb:Below w.heap.size w w'):∀ (j:Nat) (v:Value),unD W0s B T a0 a1 a2 a3 a4 a5 a6 a7 c0 c1 c2 c3 c4 c5 c6 c7 x0 x1 x2 x3 j v w→unD W0s B T a0 a1 a2 a3 a4 a5 a6 a7 c0 c1 c2 c3 c4 c5 c6 c7 x0 x1 x2 x3 j v w'
 | 0,v,h =>h
 | 1,v,h =>h
 | 2,v,h =>h
 | 3,v,h =>h
 | 4,v,h =>h
 | 5,v,h =>h
 | 6,v,h =>h
 | 7,v,h =>h
 | 8,v,h =>h
 | 9,v,h =>h
 | 10,v,h =>h
 | 11,v,h =>h
 | 12,v,h =>h
 | 13,v,h =>h
 | 14,v,h =>h
 | 15,v,h =>h
 | 16,v,h =>h
 | 17,v,h =>h
 | 18,v,h =>h
 | 19,v,h =>h
 | 20,v,h =>h
 | 21,v,h =>h
 | 22,v,h =>h
 | 23,v,h =>h
 | 24,v,h =>h
 | 25,v,h =>h
 | 26,v,h =>h
 | 27,v,h =>h
 | 28,v,h =>let ⟨g,e,h1,h2⟩:=h; ⟨g,e,zaY h1 hb.size,h2.below h1 hb⟩
 | 29,v,h =>h
 | _+30,v,h =>h
theorem yS {W0s B:Nat} {T:TV} {a0 a1 a2 a3 a4 a5 a6 a7:Option Addr} {c0 c1 c2 c3 c4 c5 c6 c7:Nat} {x0 x1 x2 x3:Int × Int × Int} {w:World} (j:Nat) (v:Value) (hm:zkM j=true) (h:unD W0s B T a0 a1 a2 a3 a4 a5 a6 a7 c0 c1 c2 c3 c4 c5 c6 c7 x0 x1 x2 x3 j v w):∀ b,v.ownBlock=some b→b < w.heap.size:=by
 cases hm
theorem zbI {T:TV} (hO:zx T) (B:Nat) (W:World) (h:BookAt W B T):Calls Tryz.prog 90 #[.pointer (some ⟨B,0,none⟩)] W fun e w' =>e=.returned (wrV (qC T))∧Below W.heap.size W w':=by
 have hmx:=zdA
 have hmf:=zkv
 have HMF:=kz hmf;have hB0:Below W.heap.size W ((W.alloc (.cells #[.pointer (some ⟨B,0,none⟩)] 22)).alloc (.cells #[.int .i64 0,.int .i64 0,.int .i64 0] 89)).drew:=(((Below.refl _ W).alloc zD _).alloc (by simp) _).trans ⟨rfl,rfl,rfl,zD,fun _ _ =>rfl⟩;have bB:Blk ((W.alloc (.cells #[.pointer (some ⟨B,0,none⟩)] 22)).alloc (.cells #[.int .i64 0,.int .i64 0,.int .i64 0] 89)).drew W.heap.size #[.pointer (some ⟨B,0,none⟩)] 22:=(Blk.new W _ _).alloc _;have bR:Blk ((W.alloc (.cells #[.pointer (some ⟨B,0,none⟩)] 22)).alloc (.cells #[.int .i64 0,.int .i64 0,.int .i64 0] 89)).drew (W.heap.size+1) #[.int .i64 0,.int .i64 0,.int .i64 0] 89:=by
  have h:=Blk.new (W.alloc (.cells #[.pointer (some ⟨B,0,none⟩)] 22)) #[.int .i64 0,.int .i64 0,.int .i64 0] 89;rw [World.size_alloc] at h;exact h
 obtain ⟨a0,a1,a2,a3,a4,a5,a6,a7,c0,c1,c2,c3,c4,c5,c6,c7,us,tb⟩:=h.tabs;have b0:((W.alloc (.cells #[.pointer (some ⟨B,0,none⟩)] 22)).alloc (.cells #[.int .i64 0,.int .i64 0,.int .i64 0] 89)).cell? ⟨W.heap.size,0,none⟩=some (.pointer (some ⟨B,0,none⟩)):=bB.cell 0;have hS:StF ((W.alloc (.cells #[.pointer (some ⟨B,0,none⟩)] 22)).alloc (.cells #[.int .i64 0,.int .i64 0,.int .i64 0] 89)).drew W.heap.size (W.heap.size+1) B T a0 a1 a2 a3 a4 a5 a6 a7 c0 c1 c2 c3 c4 c5 c6 c7 us:=⟨⟨bB,h.below hB0⟩,bR,tb.below hB0⟩;have HF:Hz (∀ w1,Below ((W.alloc (.cells #[.pointer (some ⟨B,0,none⟩)] 22)).alloc (.cells #[.int .i64 0,.int .i64 0,.int .i64 0] 89)).drew.heap.size ((W.alloc (.cells #[.pointer (some ⟨B,0,none⟩)] 22)).alloc (.cells #[.int .i64 0,.int .i64 0,.int .i64 0] 89)).drew w1→StF w1 W.heap.size (W.heap.size+1) B T a0 a1 a2 a3 a4 a5 a6 a7 c0 c1 c2 c3 c4 c5 c6 c7 us):=kz (fun w1 h =>hS.below h);have HB:=kz hB0;have HO:=kz hO;clear hB0 bB bR h tb hS hO b0;obtain ⟨x0,hx0⟩:∃ x,zg 3 T.ma ma0 (fun x =>if drB T x.1 then 37 else 0)=x:=⟨_,rfl⟩;obtain ⟨x1,hx1⟩:∃ x,zg 4 T.pr pr0 (fun x =>if drB T x.1 || (drB T x.2.1 || drB T x.2.2) then 37 else 0)=x:=⟨_,rfl⟩;obtain ⟨x2,hx2⟩:∃ x,zg 5 T.fo mp0 (fun x =>if drB T x.1 then 37 else 0)=x:=⟨_,rfl⟩;obtain ⟨x3,hx3⟩:∃ x,zg 6 T.lk mp0 (fun x =>if drB T x.1 then 37 else 0)=x:=⟨_,rfl⟩;have HOK:Hz (∀ x ∈ [x0,x1,x2,x3],OkW x):=kz (by
  intro x hx;simp only [List.mem_cons,List.not_mem_nil,or_false] at hx;rcases hx with rfl | rfl | rfl | rfl
  ·rw [← hx0];exact zR _ _ _ _
  ·rw [← hx1];exact zR _ _ _ _
  ·rw [← hx2];exact zR _ _ _ _
  ·rw [← hx3];exact zR _ _ _ _)
 have hfin:qC T=orW [x0,x1,x2,x3]:=by
  unfold qC;rw [hx0,hx1,hx2,hx3]
 rw [hfin];have HX0:=kz hx0;have HX1:=kz hx1;have HX2:=kz hx2;have HX3:=kz hx3;clear hfin hx0 hx1 hx2 hx3;go_enter Tryz.func90,Tryz.ntmps90;go_wp2_with fail
 generalize ((W.alloc _).alloc _)=w0 at *;clear hmf;refine zn hmx 30 (by decide) (by kernel_rfl) (by kernel_rfl) (fun l a w => ∃ U:Nat→Value,a = { tmps:=#[.pointer (some ⟨B,0,none⟩),.pointer (some ⟨W.heap.size,0,none⟩),.pointer (some ⟨W.heap.size+1,0,none⟩),.func (.func 155) #[] #[.pointer (some ⟨W.heap.size,0,none⟩)],.func (.func 155) #[] #[.pointer (some ⟨W.heap.size,0,none⟩)],U 0,U 1,U 2,U 3,U 4,U 5,U 6,U 7,U 8,U 9,U 10,U 11,U 12,U 13,U 14,U 15,U 16,U 17,U 18,U 19,U 20,U 21,U 22,U 23,U 24,U 25,U 26,U 27,U 28,U 29],defers := [] }∧RgJ (w0.drew) (w0.drew.heap.size) (unD W.heap.size B T a0 a1 a2 a3 a4 a5 a6 a7 c0 c1 c2 c3 c4 c5 c6 c7 x0 x1 x2 x3) zkM l U w) ⟨fun _ =>undef,rfl,RgJ.start _ _ zD⟩ ?_ ?_
 ·rintro l a w i ⟨U,rfl,hJ⟩ hl hi hif;have h0:=(mem_ready.1 hi).1;have hlt:=Xo hl h0;have HJ:=kz hJ;clear hJ hl
  replace hlt:i < 31:=hlt
  obtain rfl | rfl | rfl | rfl | rfl | rfl | rfl | rfl | rfl | rfl | rfl | rfl | rfl | rfl | rfl | rfl | rfl | rfl | rfl | rfl | rfl | rfl | rfl | rfl | rfl | rfl | rfl | rfl | rfl | rfl:i=0∨i=1∨i=2∨i=3∨i=4∨i=5∨i=6∨i=7∨i=8∨i=9∨i=10∨i=11∨i=12∨i=13∨i=14∨i=15∨i=16∨i=17∨i=18∨i=19∨i=20∨i=21∨i=22∨i=23∨i=24∨i=25∨i=26∨i=27∨i=28∨i=29:=by omega
  any_goals refine Ky rfl (fun K hK =>?_)
  ·clear hlt hif;have q0:=(oz HF w (oz HJ).bel).bp.bb.cell 0;go_simp;exact hK _ _ ⟨za U 0 _,rfl,(oz HJ).put 0 _ h0 zl (yR zl) rfl yS (zJ rfl)⟩
  ·clear hlt hif;have d0:U 0=.pointer (some ⟨B,0,none⟩):=(oz HJ).val 0 (zb hi 0 (by kernel_rfl));go_simp;exact hK _ _ ⟨za U 1 _,(by rw [zc d0];rfl),(oz HJ).put 1 _ h0 zl (yR zl) rfl yS (zJ rfl)⟩
  ·clear hlt hif;have d1:U 1=.pointer (some ⟨B,0,none⟩):=(oz HJ).val 1 (zb hi 1 (by kernel_rfl));go_simp;exact hK _ _ ⟨za U 2 _,(by rw [zc d1];rfl),(oz HJ).put 2 _ h0 zl (yR zl) rfl yS (zJ rfl)⟩
  ·clear hlt hif;have d2:U 2=.pointer (some ⟨B,0,none⟩):=(oz HJ).val 2 (zb hi 2 (by kernel_rfl));go_simp;exact hK _ _ ⟨za U 3 _,(by rw [zc d2];rfl),(oz HJ).put 3 _ h0 zl (yR zl) rfl yS (zJ rfl)⟩
  ·clear hlt hif;have d3:U 3=.pointer (some ⟨B,2,none⟩):=(oz HJ).val 3 (zb hi 3 (by kernel_rfl));have q0:=(oz HF w (oz HJ).bel).tb.k2;go_simp;exact hK _ _ ⟨za U 4 _,(by rw [zc d3];rfl),(oz HJ).put 4 _ h0 zl (yR zl) rfl yS (zJ rfl)⟩
  ·clear hlt hif;have hmf:=oz HMF;go_simp;exact hK _ _ ⟨za U 5 _,rfl,(oz HJ).put 5 _ h0 zl (yR zl) rfl yS (zJ rfl)⟩
  ·clear hlt hif;have d4:U 4=.slice a2 T.ma.length c2:=(oz HJ).val 4 (zb hi 4 (by kernel_rfl));have d5:U 5=.func (.func 157) #[] #[.pointer (some ⟨W.heap.size,0,none⟩)]:=(oz HJ).val 5 (zb hi 5 (by kernel_rfl));have hf:=oz HF w (oz HJ).bel;go_simp;refine (zdo T.ma (by have:=(oz HO).l2;omega) 3 (fun x =>if drB T x.1 then 37 else 0) 157 #[.pointer (some ⟨W.heap.size,0,none⟩)] (enters_of Tryz.func157 (by kernel_rfl) rfl) (fun w =>BkP w W.heap.size B T) (fun _ _ h hb =>h.below hb) (fun x hx w hw =>zes (oz HO) W.heap.size B x.1 x.2 w hw) a2 c2 w hf.bp hf.tb.ti.r2).mono ?_;rw [oz HX0];rintro e w' ⟨rfl,hb⟩;exact hK _ _ ⟨za U 6 _,(by rw [zc d4,zc d5];rfl),(oz HJ).put 6 _ h0 hb (yR hb) rfl yS (zJ rfl)⟩
  ·clear hlt hif;have q0:=(oz HF w (oz HJ).bel).bp.bb.cell 0;go_simp;exact hK _ _ ⟨za U 7 _,rfl,(oz HJ).put 7 _ h0 zl (yR zl) rfl yS (zJ rfl)⟩
  ·clear hlt hif;have d7:U 7=.pointer (some ⟨B,0,none⟩):=(oz HJ).val 7 (zb hi 7 (by kernel_rfl));go_simp;exact hK _ _ ⟨za U 8 _,(by rw [zc d7];rfl),(oz HJ).put 8 _ h0 zl (yR zl) rfl yS (zJ rfl)⟩
  ·clear hlt hif;have d8:U 8=.pointer (some ⟨B,0,none⟩):=(oz HJ).val 8 (zb hi 8 (by kernel_rfl));go_simp;exact hK _ _ ⟨za U 9 _,(by rw [zc d8];rfl),(oz HJ).put 9 _ h0 zl (yR zl) rfl yS (zJ rfl)⟩
  ·clear hlt hif;have d9:U 9=.pointer (some ⟨B,0,none⟩):=(oz HJ).val 9 (zb hi 9 (by kernel_rfl));go_simp;exact hK _ _ ⟨za U 10 _,(by rw [zc d9];rfl),(oz HJ).put 10 _ h0 zl (yR zl) rfl yS (zJ rfl)⟩
  ·clear hlt hif;have d10:U 10=.pointer (some ⟨B,3,none⟩):=(oz HJ).val 10 (zb hi 10 (by kernel_rfl));have q0:=(oz HF w (oz HJ).bel).tb.k3;go_simp;exact hK _ _ ⟨za U 11 _,(by rw [zc d10];rfl),(oz HJ).put 11 _ h0 zl (yR zl) rfl yS (zJ rfl)⟩
  ·clear hlt hif;have hmf:=oz HMF;go_simp;exact hK _ _ ⟨za U 12 _,rfl,(oz HJ).put 12 _ h0 zl (yR zl) rfl yS (zJ rfl)⟩
  ·clear hlt hif;have d11:U 11=.slice a3 T.pr.length c3:=(oz HJ).val 11 (zb hi 11 (by kernel_rfl));have d12:U 12=.func (.func 158) #[] #[.pointer (some ⟨W.heap.size,0,none⟩)]:=(oz HJ).val 12 (zb hi 12 (by kernel_rfl));have hf:=oz HF w (oz HJ).bel;go_simp;refine (zar T.pr (by have:=(oz HO).l3;omega) 4 (fun x =>if drB T x.1 || (drB T x.2.1 || drB T x.2.2) then 37 else 0) 158 #[.pointer (some ⟨W.heap.size,0,none⟩)] (enters_of Tryz.func158 (by kernel_rfl) rfl) (fun w =>BkP w W.heap.size B T) (fun _ _ h hb =>h.below hb) (fun x hx w hw =>zer (oz HO) W.heap.size B x.1 x.2.1 x.2.2 w hw) a3 c3 w hf.bp hf.tb.ti.r3).mono ?_;rw [oz HX1];rintro e w' ⟨rfl,hb⟩;exact hK _ _ ⟨za U 13 _,(by rw [zc d11,zc d12];rfl),(oz HJ).put 13 _ h0 hb (yR hb) rfl yS (zJ rfl)⟩
  ·clear hlt hif;have q0:=(oz HF w (oz HJ).bel).bp.bb.cell 0;go_simp;exact hK _ _ ⟨za U 14 _,rfl,(oz HJ).put 14 _ h0 zl (yR zl) rfl yS (zJ rfl)⟩
  ·clear hlt hif;have d14:U 14=.pointer (some ⟨B,0,none⟩):=(oz HJ).val 14 (zb hi 14 (by kernel_rfl));go_simp;exact hK _ _ ⟨za U 15 _,(by rw [zc d14];rfl),(oz HJ).put 15 _ h0 zl (yR zl) rfl yS (zJ rfl)⟩
  ·clear hlt hif;have d15:U 15=.pointer (some ⟨B,0,none⟩):=(oz HJ).val 15 (zb hi 15 (by kernel_rfl));go_simp;exact hK _ _ ⟨za U 16 _,(by rw [zc d15];rfl),(oz HJ).put 16 _ h0 zl (yR zl) rfl yS (zJ rfl)⟩
  ·clear hlt hif;have d16:U 16=.pointer (some ⟨B,0,none⟩):=(oz HJ).val 16 (zb hi 16 (by kernel_rfl));go_simp;exact hK _ _ ⟨za U 17 _,(by rw [zc d16];rfl),(oz HJ).put 17 _ h0 zl (yR zl) rfl yS (zJ rfl)⟩
  ·clear hlt hif;have d17:U 17=.pointer (some ⟨B,4,none⟩):=(oz HJ).val 17 (zb hi 17 (by kernel_rfl));have q0:=(oz HF w (oz HJ).bel).tb.k4;go_simp;exact hK _ _ ⟨za U 18 _,(by rw [zc d17];rfl),(oz HJ).put 18 _ h0 zl (yR zl) rfl yS (zJ rfl)⟩
  ·clear hlt hif;have hmf:=oz HMF;go_simp;exact hK _ _ ⟨za U 19 _,rfl,(oz HJ).put 19 _ h0 zl (yR zl) rfl yS (zJ rfl)⟩
  ·clear hlt hif;have d18:U 18=.slice a4 T.fo.length c4:=(oz HJ).val 18 (zb hi 18 (by kernel_rfl));have d19:U 19=.func (.func 155) #[] #[.pointer (some ⟨W.heap.size,0,none⟩)]:=(oz HJ).val 19 (zb hi 19 (by kernel_rfl));have hf:=oz HF w (oz HJ).bel;go_simp;refine (Y8 T.fo (by have:=(oz HO).l4;omega) 5 (fun x =>if drB T x.1 then 37 else 0) 155 #[.pointer (some ⟨W.heap.size,0,none⟩)] (enters_of Tryz.func155 (by kernel_rfl) rfl) (fun w =>BkP w W.heap.size B T) (fun _ _ h hb =>h.below hb) (fun x hx w hw =>zac (oz HO) W.heap.size B x.1 x.2 w hw) a4 c4 w hf.bp hf.tb.ti.r4).mono ?_;rw [oz HX2];rintro e w' ⟨rfl,hb⟩;exact hK _ _ ⟨za U 20 _,(by rw [zc d18,zc d19];rfl),(oz HJ).put 20 _ h0 hb (yR hb) rfl yS (zJ rfl)⟩
  ·clear hlt hif;have q0:=(oz HF w (oz HJ).bel).bp.bb.cell 0;go_simp;exact hK _ _ ⟨za U 21 _,rfl,(oz HJ).put 21 _ h0 zl (yR zl) rfl yS (zJ rfl)⟩
  ·clear hlt hif;have d21:U 21=.pointer (some ⟨B,0,none⟩):=(oz HJ).val 21 (zb hi 21 (by kernel_rfl));go_simp;exact hK _ _ ⟨za U 22 _,(by rw [zc d21];rfl),(oz HJ).put 22 _ h0 zl (yR zl) rfl yS (zJ rfl)⟩
  ·clear hlt hif;have d22:U 22=.pointer (some ⟨B,0,none⟩):=(oz HJ).val 22 (zb hi 22 (by kernel_rfl));go_simp;exact hK _ _ ⟨za U 23 _,(by rw [zc d22];rfl),(oz HJ).put 23 _ h0 zl (yR zl) rfl yS (zJ rfl)⟩
  ·clear hlt hif;have d23:U 23=.pointer (some ⟨B,0,none⟩):=(oz HJ).val 23 (zb hi 23 (by kernel_rfl));go_simp;exact hK _ _ ⟨za U 24 _,(by rw [zc d23];rfl),(oz HJ).put 24 _ h0 zl (yR zl) rfl yS (zJ rfl)⟩
  ·clear hlt hif;have d24:U 24=.pointer (some ⟨B,5,none⟩):=(oz HJ).val 24 (zb hi 24 (by kernel_rfl));have q0:=(oz HF w (oz HJ).bel).tb.k5;go_simp;exact hK _ _ ⟨za U 25 _,(by rw [zc d24];rfl),(oz HJ).put 25 _ h0 zl (yR zl) rfl yS (zJ rfl)⟩
  ·clear hlt hif;have hmf:=oz HMF;go_simp;exact hK _ _ ⟨za U 26 _,rfl,(oz HJ).put 26 _ h0 zl (yR zl) rfl yS (zJ rfl)⟩
  ·clear hlt hif;have d25:U 25=.slice a5 T.lk.length c5:=(oz HJ).val 25 (zb hi 25 (by kernel_rfl));have d26:U 26=.func (.func 155) #[] #[.pointer (some ⟨W.heap.size,0,none⟩)]:=(oz HJ).val 26 (zb hi 26 (by kernel_rfl));have hf:=oz HF w (oz HJ).bel;go_simp;refine (Y8 T.lk (by have:=(oz HO).l5;omega) 6 (fun x =>if drB T x.1 then 37 else 0) 155 #[.pointer (some ⟨W.heap.size,0,none⟩)] (enters_of Tryz.func155 (by kernel_rfl) rfl) (fun w =>BkP w W.heap.size B T) (fun _ _ h hb =>h.below hb) (fun x hx w hw =>zac (oz HO) W.heap.size B x.1 x.2 w hw) a5 c5 w hf.bp hf.tb.ti.r5).mono ?_;rw [oz HX3];rintro e w' ⟨rfl,hb⟩;exact hK _ _ ⟨za U 27 _,(by rw [zc d25,zc d26];rfl),(oz HJ).put 27 _ h0 hb (yR hb) rfl yS (zJ rfl)⟩
  ·clear hlt hif;have d6:U 6=wrV x0:=(oz HJ).val 6 (zb hi 6 (by kernel_rfl));have d13:U 13=wrV x1:=(oz HJ).val 13 (zb hi 13 (by kernel_rfl));have d20:U 20=wrV x2:=(oz HJ).val 20 (zb hi 20 (by kernel_rfl));have d27:U 27=wrV x3:=(oz HJ).val 27 (zb hi 27 (by kernel_rfl));unfold wrV at d6 d13 d20 d27;go_simp;exact hK _ _ ⟨za U 28 _,(by rw [zc d6,zc d13,zc d20,zc d27];rfl),(oz HJ).put 28 _ h0 (zl.alloc zD _) (yR (zl.alloc zD _)) ⟨_,rfl,by simp,X0 w _ [x0,x1,x2,x3] _ _ rfl rfl⟩ yS (zJ rfl)⟩
  ·clear hlt hif;obtain ⟨g28,d28,l28,h28⟩:=(oz HJ).val 28 (zb hi 28 (by kernel_rfl));go_simp;refine (qT [x0,x1,x2,x3] (by simp) (oz HOK) _ 0 _ _ l28 h28).mono ?_;rintro e w' ⟨rfl,hb⟩;exact hK _ _ ⟨za U 29 _,(by rw [zc d28];rfl),(oz HJ).put 29 _ h0 hb (yR hb) rfl yS (zJ rfl)⟩
 ·rintro l a w ⟨U,rfl,hJ⟩ hall;have d29:U 29=wrV (orW [x0,x1,x2,x3]):=hJ.val 29 (hall 29 (by decide) (by decide));have HBJ:=kz (yB ((oz HB).trans (hJ.bel.mono (oz HB).size)) (oz HF w hJ.bel).rs);clear hJ hall;refine Ky rfl (fun K hK =>?_);obtain ⟨y,hy⟩:∃ y,orW [x0,x1,x2,x3]=y:=⟨_,rfl⟩;rw [hy] at d29;have HY:=kz hy;clear hy;obtain ⟨y0,y1,y2⟩:=y;unfold wrV at d29;have r0:=(oz HBJ).2.cell 0;have f0:=(oz HBJ).2.frozen 0;have r1:=(oz HBJ).2.cell 1;have f1:=(oz HBJ).2.frozen 1;have r2:=(oz HBJ).2.cell 2;have f2:=(oz HBJ).2.frozen 2;go_simp;refine hK _ _ ?_;clear hK;go_wp2_with fail
  exact XS (v:=wrV (y0,y1,y2)) (jA Tryz.results90 rfl (jG (oz HBJ).2 _ _ _) rfl) rfl ⟨by rw [oz HY],zY (oz HBJ).1 (by omega) (oz HBJ).1.size _ _ _⟩
def ufD (W0s B:Nat) (T:TV) (a0 a1 a2 a3 a4 a5 a6 a7:Option Addr) (c0 c1 c2 c3 c4 c5 c6 c7:Nat) (x0 x1:Int × Int × Int):Nat→Value→World→Prop
 | 0,v,w =>v=.pointer (some ⟨B,0,none⟩)
 | 1,v,w =>v=.pointer (some ⟨B,0,none⟩)
 | 2,v,w =>v=.pointer (some ⟨B,0,none⟩)
 | 3,v,w =>v=.pointer (some ⟨B,4,none⟩)
 | 4,v,w =>v=.slice a4 T.fo.length c4
 | 5,v,w =>v=.func (.func 159) #[] #[.pointer (some ⟨W0s,0,none⟩)]
 | 6,v,w =>v=wrV x0
 | 7,v,w =>v=.pointer (some ⟨B,0,none⟩)
 | 8,v,w =>v=.pointer (some ⟨B,0,none⟩)
 | 9,v,w =>v=.pointer (some ⟨B,0,none⟩)
 | 10,v,w =>v=.pointer (some ⟨B,5,none⟩)
 | 11,v,w =>v=.slice a5 T.lk.length c5
 | 12,v,w =>v=.func (.func 159) #[] #[.pointer (some ⟨W0s,0,none⟩)]
 | 13,v,w =>v=wrV x1
 | 14,v,w => ∃ g,v=.slice (some ⟨g,0,none⟩) 2 2∧g < w.heap.size∧RwW w g 0 [x0,x1]
 | 15,v,w =>v=wrV (orW [x0,x1])
 | _,v,w =>True
def zkN (j:Nat):Bool:=false
theorem Xs {W0s B:Nat} {T:TV} {a0 a1 a2 a3 a4 a5 a6 a7:Option Addr} {c0 c1 c2 c3 c4 c5 c6 c7:Nat} {x0 x1:Int × Int × Int} {w w':World} (hb:Below w.heap.size w w'):∀ (j:Nat) (v:Value),ufD W0s B T a0 a1 a2 a3 a4 a5 a6 a7 c0 c1 c2 c3 c4 c5 c6 c7 x0 x1 j v w→ufD W0s B T a0 a1 a2 a3 a4 a5 a6 a7 c0 c1 c2 c3 c4 c5 c6 c7 x0 x1 j v w'
 | 0,v,h =>h
 | 1,v,h =>h
 | 2,v,h =>h
 | 3,v,h =>h
 | 4,v,h =>h
 | 5,v,h =>h
 | 6,v,h =>h
 | 7,v,h =>h
 | 8,v,h =>h
 | 9,v,h =>h
 | 10,v,h =>h
 | 11,v,h =>h
 | 12,v,h =>h
 | 13,v,h =>h
 | 14,v,h =>let ⟨g,e,h1,h2⟩:=h; ⟨g,e,zaY h1 hb.size,h2.below h1 hb⟩
 | 15,v,h =>h
 | _+16,v,h =>h
theorem Xt {W0s B:Nat} {T:TV} {a0 a1 a2 a3 a4 a5 a6 a7:Option Addr} {c0 c1 c2 c3 c4 c5 c6 c7:Nat} {x0 x1:Int × Int × Int} {w:World} (j:Nat) (v:Value) (hm:zkN j=true) (h:ufD W0s B T a0 a1 a2 a3 a4 a5 a6 a7 c0 c1 c2 c3 c4 c5 c6 c7 x0 x1 j v w):∀ b,v.ownBlock=some b→b < w.heap.size:=by
 cases hm
theorem JH {T:TV} (hO:zx T) (B:Nat) (W:World) (h:BookAt W B T):Calls Tryz.prog 91 #[.pointer (some ⟨B,0,none⟩)] W fun e w' =>e=.returned (wrV (qP T))∧Below W.heap.size W w':=by
 have hmx:=zdA
 have hmf:=zkv
 have HMF:=kz hmf;have hB0:Below W.heap.size W ((W.alloc (.cells #[.pointer (some ⟨B,0,none⟩)] 22)).alloc (.cells #[.int .i64 0,.int .i64 0,.int .i64 0] 89)).drew:=(((Below.refl _ W).alloc zD _).alloc (by simp) _).trans ⟨rfl,rfl,rfl,zD,fun _ _ =>rfl⟩;have bB:Blk ((W.alloc (.cells #[.pointer (some ⟨B,0,none⟩)] 22)).alloc (.cells #[.int .i64 0,.int .i64 0,.int .i64 0] 89)).drew W.heap.size #[.pointer (some ⟨B,0,none⟩)] 22:=(Blk.new W _ _).alloc _;have bR:Blk ((W.alloc (.cells #[.pointer (some ⟨B,0,none⟩)] 22)).alloc (.cells #[.int .i64 0,.int .i64 0,.int .i64 0] 89)).drew (W.heap.size+1) #[.int .i64 0,.int .i64 0,.int .i64 0] 89:=by
  have h:=Blk.new (W.alloc (.cells #[.pointer (some ⟨B,0,none⟩)] 22)) #[.int .i64 0,.int .i64 0,.int .i64 0] 89;rw [World.size_alloc] at h;exact h
 obtain ⟨a0,a1,a2,a3,a4,a5,a6,a7,c0,c1,c2,c3,c4,c5,c6,c7,us,tb⟩:=h.tabs;have b0:((W.alloc (.cells #[.pointer (some ⟨B,0,none⟩)] 22)).alloc (.cells #[.int .i64 0,.int .i64 0,.int .i64 0] 89)).cell? ⟨W.heap.size,0,none⟩=some (.pointer (some ⟨B,0,none⟩)):=bB.cell 0;have hS:StF ((W.alloc (.cells #[.pointer (some ⟨B,0,none⟩)] 22)).alloc (.cells #[.int .i64 0,.int .i64 0,.int .i64 0] 89)).drew W.heap.size (W.heap.size+1) B T a0 a1 a2 a3 a4 a5 a6 a7 c0 c1 c2 c3 c4 c5 c6 c7 us:=⟨⟨bB,h.below hB0⟩,bR,tb.below hB0⟩;have HF:Hz (∀ w1,Below ((W.alloc (.cells #[.pointer (some ⟨B,0,none⟩)] 22)).alloc (.cells #[.int .i64 0,.int .i64 0,.int .i64 0] 89)).drew.heap.size ((W.alloc (.cells #[.pointer (some ⟨B,0,none⟩)] 22)).alloc (.cells #[.int .i64 0,.int .i64 0,.int .i64 0] 89)).drew w1→StF w1 W.heap.size (W.heap.size+1) B T a0 a1 a2 a3 a4 a5 a6 a7 c0 c1 c2 c3 c4 c5 c6 c7 us):=kz (fun w1 h =>hS.below h);have HB:=kz hB0;have HO:=kz hO;clear hB0 bB bR h tb hS hO b0;obtain ⟨x0,hx0⟩:∃ x,zg 5 T.fo mp0 (fun x =>if yJ T x.1 || XU T x.1 then 31 else 0)=x:=⟨_,rfl⟩;obtain ⟨x1,hx1⟩:∃ x,zg 6 T.lk mp0 (fun x =>if yJ T x.1 || XU T x.1 then 31 else 0)=x:=⟨_,rfl⟩;have HOK:Hz (∀ x ∈ [x0,x1],OkW x):=kz (by
  intro x hx;simp only [List.mem_cons,List.not_mem_nil,or_false] at hx;rcases hx with rfl | rfl
  ·rw [← hx0];exact zR _ _ _ _
  ·rw [← hx1];exact zR _ _ _ _)
 have hfin:qP T=orW [x0,x1]:=by
  unfold qP;rw [hx0,hx1]
 rw [hfin];have HX0:=kz hx0;have HX1:=kz hx1;clear hfin hx0 hx1;go_enter Tryz.func91,Tryz.ntmps91;go_wp2_with fail
 generalize ((W.alloc _).alloc _)=w0 at *;clear hmf;refine zn hmx 16 (by decide) (by kernel_rfl) (by kernel_rfl) (fun l a w => ∃ U:Nat→Value,a = { tmps:=#[.pointer (some ⟨B,0,none⟩),.pointer (some ⟨W.heap.size,0,none⟩),.pointer (some ⟨W.heap.size+1,0,none⟩),.func (.func 159) #[] #[.pointer (some ⟨W.heap.size,0,none⟩)],.func (.func 159) #[] #[.pointer (some ⟨W.heap.size,0,none⟩)],U 0,U 1,U 2,U 3,U 4,U 5,U 6,U 7,U 8,U 9,U 10,U 11,U 12,U 13,U 14,U 15],defers := [] }∧RgJ (w0.drew) (w0.drew.heap.size) (ufD W.heap.size B T a0 a1 a2 a3 a4 a5 a6 a7 c0 c1 c2 c3 c4 c5 c6 c7 x0 x1) zkN l U w) ⟨fun _ =>undef,rfl,RgJ.start _ _ zD⟩ ?_ ?_
 ·rintro l a w i ⟨U,rfl,hJ⟩ hl hi hif;have h0:=(mem_ready.1 hi).1;have hlt:=Xo hl h0;have HJ:=kz hJ;clear hJ hl
  replace hlt:i < 17:=hlt
  obtain rfl | rfl | rfl | rfl | rfl | rfl | rfl | rfl | rfl | rfl | rfl | rfl | rfl | rfl | rfl | rfl:i=0∨i=1∨i=2∨i=3∨i=4∨i=5∨i=6∨i=7∨i=8∨i=9∨i=10∨i=11∨i=12∨i=13∨i=14∨i=15:=by omega
  any_goals refine Ky rfl (fun K hK =>?_)
  ·clear hlt hif;have q0:=(oz HF w (oz HJ).bel).bp.bb.cell 0;go_simp;exact hK _ _ ⟨za U 0 _,rfl,(oz HJ).put 0 _ h0 zl (Xs zl) rfl Xt (zJ rfl)⟩
  ·clear hlt hif;have d0:U 0=.pointer (some ⟨B,0,none⟩):=(oz HJ).val 0 (zb hi 0 (by kernel_rfl));go_simp;exact hK _ _ ⟨za U 1 _,(by rw [zc d0];rfl),(oz HJ).put 1 _ h0 zl (Xs zl) rfl Xt (zJ rfl)⟩
  ·clear hlt hif;have d1:U 1=.pointer (some ⟨B,0,none⟩):=(oz HJ).val 1 (zb hi 1 (by kernel_rfl));go_simp;exact hK _ _ ⟨za U 2 _,(by rw [zc d1];rfl),(oz HJ).put 2 _ h0 zl (Xs zl) rfl Xt (zJ rfl)⟩
  ·clear hlt hif;have d2:U 2=.pointer (some ⟨B,0,none⟩):=(oz HJ).val 2 (zb hi 2 (by kernel_rfl));go_simp;exact hK _ _ ⟨za U 3 _,(by rw [zc d2];rfl),(oz HJ).put 3 _ h0 zl (Xs zl) rfl Xt (zJ rfl)⟩
  ·clear hlt hif;have d3:U 3=.pointer (some ⟨B,4,none⟩):=(oz HJ).val 3 (zb hi 3 (by kernel_rfl));have q0:=(oz HF w (oz HJ).bel).tb.k4;go_simp;exact hK _ _ ⟨za U 4 _,(by rw [zc d3];rfl),(oz HJ).put 4 _ h0 zl (Xs zl) rfl Xt (zJ rfl)⟩
  ·clear hlt hif;have hmf:=oz HMF;go_simp;exact hK _ _ ⟨za U 5 _,rfl,(oz HJ).put 5 _ h0 zl (Xs zl) rfl Xt (zJ rfl)⟩
  ·clear hlt hif;have d4:U 4=.slice a4 T.fo.length c4:=(oz HJ).val 4 (zb hi 4 (by kernel_rfl));have d5:U 5=.func (.func 159) #[] #[.pointer (some ⟨W.heap.size,0,none⟩)]:=(oz HJ).val 5 (zb hi 5 (by kernel_rfl));have hf:=oz HF w (oz HJ).bel;go_simp;refine (Y8 T.fo (by have:=(oz HO).l4;omega) 5 (fun x =>if yJ T x.1 || XU T x.1 then 31 else 0) 159 #[.pointer (some ⟨W.heap.size,0,none⟩)] (enters_of Tryz.func159 (by kernel_rfl) rfl) (fun w =>BkP w W.heap.size B T) (fun _ _ h hb =>h.below hb) (fun x hx w hw =>zae (oz HO) W.heap.size B x.1 x.2 (Xc ((oz HO).f4 x hx).1) w hw) a4 c4 w hf.bp hf.tb.ti.r4).mono ?_;rw [oz HX0];rintro e w' ⟨rfl,hb⟩;exact hK _ _ ⟨za U 6 _,(by rw [zc d4,zc d5];rfl),(oz HJ).put 6 _ h0 hb (Xs hb) rfl Xt (zJ rfl)⟩
  ·clear hlt hif;have q0:=(oz HF w (oz HJ).bel).bp.bb.cell 0;go_simp;exact hK _ _ ⟨za U 7 _,rfl,(oz HJ).put 7 _ h0 zl (Xs zl) rfl Xt (zJ rfl)⟩
  ·clear hlt hif;have d7:U 7=.pointer (some ⟨B,0,none⟩):=(oz HJ).val 7 (zb hi 7 (by kernel_rfl));go_simp;exact hK _ _ ⟨za U 8 _,(by rw [zc d7];rfl),(oz HJ).put 8 _ h0 zl (Xs zl) rfl Xt (zJ rfl)⟩
  ·clear hlt hif;have d8:U 8=.pointer (some ⟨B,0,none⟩):=(oz HJ).val 8 (zb hi 8 (by kernel_rfl));go_simp;exact hK _ _ ⟨za U 9 _,(by rw [zc d8];rfl),(oz HJ).put 9 _ h0 zl (Xs zl) rfl Xt (zJ rfl)⟩
  ·clear hlt hif;have d9:U 9=.pointer (some ⟨B,0,none⟩):=(oz HJ).val 9 (zb hi 9 (by kernel_rfl));go_simp;exact hK _ _ ⟨za U 10 _,(by rw [zc d9];rfl),(oz HJ).put 10 _ h0 zl (Xs zl) rfl Xt (zJ rfl)⟩
  ·clear hlt hif;have d10:U 10=.pointer (some ⟨B,5,none⟩):=(oz HJ).val 10 (zb hi 10 (by kernel_rfl));have q0:=(oz HF w (oz HJ).bel).tb.k5;go_simp;exact hK _ _ ⟨za U 11 _,(by rw [zc d10];rfl),(oz HJ).put 11 _ h0 zl (Xs zl) rfl Xt (zJ rfl)⟩
  ·clear hlt hif;have hmf:=oz HMF;go_simp;exact hK _ _ ⟨za U 12 _,rfl,(oz HJ).put 12 _ h0 zl (Xs zl) rfl Xt (zJ rfl)⟩
  ·clear hlt hif;have d11:U 11=.slice a5 T.lk.length c5:=(oz HJ).val 11 (zb hi 11 (by kernel_rfl));have d12:U 12=.func (.func 159) #[] #[.pointer (some ⟨W.heap.size,0,none⟩)]:=(oz HJ).val 12 (zb hi 12 (by kernel_rfl));have hf:=oz HF w (oz HJ).bel;go_simp;refine (Y8 T.lk (by have:=(oz HO).l5;omega) 6 (fun x =>if yJ T x.1 || XU T x.1 then 31 else 0) 159 #[.pointer (some ⟨W.heap.size,0,none⟩)] (enters_of Tryz.func159 (by kernel_rfl) rfl) (fun w =>BkP w W.heap.size B T) (fun _ _ h hb =>h.below hb) (fun x hx w hw =>zae (oz HO) W.heap.size B x.1 x.2 (Xc ((oz HO).f5 x hx).1) w hw) a5 c5 w hf.bp hf.tb.ti.r5).mono ?_;rw [oz HX1];rintro e w' ⟨rfl,hb⟩;exact hK _ _ ⟨za U 13 _,(by rw [zc d11,zc d12];rfl),(oz HJ).put 13 _ h0 hb (Xs hb) rfl Xt (zJ rfl)⟩
  ·clear hlt hif;have d6:U 6=wrV x0:=(oz HJ).val 6 (zb hi 6 (by kernel_rfl));have d13:U 13=wrV x1:=(oz HJ).val 13 (zb hi 13 (by kernel_rfl));unfold wrV at d6 d13;go_simp;exact hK _ _ ⟨za U 14 _,(by rw [zc d6,zc d13];rfl),(oz HJ).put 14 _ h0 (zl.alloc zD _) (Xs (zl.alloc zD _)) ⟨_,rfl,by simp,X0 w _ [x0,x1] _ _ rfl rfl⟩ Xt (zJ rfl)⟩
  ·clear hlt hif;obtain ⟨g14,d14,l14,h14⟩:=(oz HJ).val 14 (zb hi 14 (by kernel_rfl));go_simp;refine (qT [x0,x1] (by simp) (oz HOK) _ 0 _ _ l14 h14).mono ?_;rintro e w' ⟨rfl,hb⟩;exact hK _ _ ⟨za U 15 _,(by rw [zc d14];rfl),(oz HJ).put 15 _ h0 hb (Xs hb) rfl Xt (zJ rfl)⟩
 ·rintro l a w ⟨U,rfl,hJ⟩ hall;have d15:U 15=wrV (orW [x0,x1]):=hJ.val 15 (hall 15 (by decide) (by decide));have HBJ:=kz (yB ((oz HB).trans (hJ.bel.mono (oz HB).size)) (oz HF w hJ.bel).rs);clear hJ hall;refine Ky rfl (fun K hK =>?_);obtain ⟨y,hy⟩:∃ y,orW [x0,x1]=y:=⟨_,rfl⟩;rw [hy] at d15;have HY:=kz hy;clear hy;obtain ⟨y0,y1,y2⟩:=y;unfold wrV at d15;have r0:=(oz HBJ).2.cell 0;have f0:=(oz HBJ).2.frozen 0;have r1:=(oz HBJ).2.cell 1;have f1:=(oz HBJ).2.frozen 1;have r2:=(oz HBJ).2.cell 2;have f2:=(oz HBJ).2.frozen 2;go_simp;refine hK _ _ ?_;clear hK;go_wp2_with fail
  exact XS (v:=wrV (y0,y1,y2)) (jA Tryz.results91 rfl (jG (oz HBJ).2 _ _ _) rfl) rfl ⟨by rw [oz HY],zY (oz HBJ).1 (by omega) (oz HBJ).1.size _ _ _⟩
def utD (W0s B:Nat) (T:TV) (a0 a1 a2 a3 a4 a5 a6 a7:Option Addr) (c0 c1 c2 c3 c4 c5 c6 c7:Nat) (x0 x1:Int × Int × Int):Nat→Value→World→Prop
 | 0,v,w =>v=.pointer (some ⟨B,0,none⟩)
 | 1,v,w =>v=.pointer (some ⟨B,0,none⟩)
 | 2,v,w =>v=.pointer (some ⟨B,0,none⟩)
 | 3,v,w =>v=.pointer (some ⟨B,4,none⟩)
 | 4,v,w =>v=.slice a4 T.fo.length c4
 | 5,v,w =>v=.func (.func 164) #[] #[.pointer (some ⟨W0s+2,0,none⟩)]
 | 6,v,w =>v=wrV x0
 | 7,v,w =>v=.pointer (some ⟨B,0,none⟩)
 | 8,v,w =>v=.pointer (some ⟨B,0,none⟩)
 | 9,v,w =>v=.pointer (some ⟨B,0,none⟩)
 | 10,v,w =>v=.pointer (some ⟨B,5,none⟩)
 | 11,v,w =>v=.slice a5 T.lk.length c5
 | 12,v,w =>v=.func (.func 166) #[] #[.pointer (some ⟨W0s+3,0,none⟩)]
 | 13,v,w =>v=wrV x1
 | 14,v,w => ∃ g,v=.slice (some ⟨g,0,none⟩) 2 2∧g < w.heap.size∧RwW w g 0 [x0,x1]
 | 15,v,w =>v=wrV (orW [x0,x1])
 | _,v,w =>True
def zkL (j:Nat):Bool:=false
theorem Xq {W0s B:Nat} {T:TV} {a0 a1 a2 a3 a4 a5 a6 a7:Option Addr} {c0 c1 c2 c3 c4 c5 c6 c7:Nat} {x0 x1:Int × Int × Int} {w w':World} (hb:Below w.heap.size w w'):∀ (j:Nat) (v:Value),utD W0s B T a0 a1 a2 a3 a4 a5 a6 a7 c0 c1 c2 c3 c4 c5 c6 c7 x0 x1 j v w→utD W0s B T a0 a1 a2 a3 a4 a5 a6 a7 c0 c1 c2 c3 c4 c5 c6 c7 x0 x1 j v w'
 | 0,v,h =>h
 | 1,v,h =>h
 | 2,v,h =>h
 | 3,v,h =>h
 | 4,v,h =>h
 | 5,v,h =>h
 | 6,v,h =>h
 | 7,v,h =>h
 | 8,v,h =>h
 | 9,v,h =>h
 | 10,v,h =>h
 | 11,v,h =>h
 | 12,v,h =>h
 | 13,v,h =>h
 | 14,v,h =>let ⟨g,e,h1,h2⟩:=h; ⟨g,e,zaY h1 hb.size,h2.below h1 hb⟩
 | 15,v,h =>h
 | _+16,v,h =>h
theorem Xr {W0s B:Nat} {T:TV} {a0 a1 a2 a3 a4 a5 a6 a7:Option Addr} {c0 c1 c2 c3 c4 c5 c6 c7:Nat} {x0 x1:Int × Int × Int} {w:World} (j:Nat) (v:Value) (hm:zkL j=true) (h:utD W0s B T a0 a1 a2 a3 a4 a5 a6 a7 c0 c1 c2 c3 c4 c5 c6 c7 x0 x1 j v w):∀ b,v.ownBlock=some b→b < w.heap.size:=by
 cases hm
theorem QF {T:TV} (hO:zx T) (hz:(∀ x ∈ T.fo,x.2.size≤1048576)∧∀ x ∈ T.lk,x.2.size≤1048576) (B:Nat) (W:World) (h:BookAt W B T):Calls Tryz.prog 92 #[.pointer (some ⟨B,0,none⟩)] W fun e w' =>e=.returned (wrV (JI T))∧Below W.heap.size W w':=by
 have hmx:=zdA
 have hmf:=zkv
 have HMF:=kz hmf;have hB0:Below W.heap.size W ((((W.alloc (.cells #[.pointer (some ⟨B,0,none⟩)] 22)).alloc (.cells #[.int .i64 0,.int .i64 0,.int .i64 0] 89)).alloc (.cells #[.func (.func 161) #[] #[.pointer (some ⟨W.heap.size,0,none⟩)]] 133)).alloc (.cells #[.func (.func 163) #[] #[.pointer (some ⟨W.heap.size,0,none⟩),.pointer (some ⟨W.heap.size+2,0,none⟩)]] 133)).drew:=(((((Below.refl _ W).alloc zD _).alloc (by simp) _).alloc (by simp;omega) _).alloc (by simp;omega) _).trans ⟨rfl,rfl,rfl,zD,fun _ _ =>rfl⟩;have bB:Blk ((((W.alloc (.cells #[.pointer (some ⟨B,0,none⟩)] 22)).alloc (.cells #[.int .i64 0,.int .i64 0,.int .i64 0] 89)).alloc (.cells #[.func (.func 161) #[] #[.pointer (some ⟨W.heap.size,0,none⟩)]] 133)).alloc (.cells #[.func (.func 163) #[] #[.pointer (some ⟨W.heap.size,0,none⟩),.pointer (some ⟨W.heap.size+2,0,none⟩)]] 133)).drew W.heap.size #[.pointer (some ⟨B,0,none⟩)] 22:=(((Blk.new W _ _).alloc _).alloc _).alloc _;have bR:Blk ((((W.alloc (.cells #[.pointer (some ⟨B,0,none⟩)] 22)).alloc (.cells #[.int .i64 0,.int .i64 0,.int .i64 0] 89)).alloc (.cells #[.func (.func 161) #[] #[.pointer (some ⟨W.heap.size,0,none⟩)]] 133)).alloc (.cells #[.func (.func 163) #[] #[.pointer (some ⟨W.heap.size,0,none⟩),.pointer (some ⟨W.heap.size+2,0,none⟩)]] 133)).drew (W.heap.size+1) #[.int .i64 0,.int .i64 0,.int .i64 0] 89:=by
  have h:=Blk.new (W.alloc (.cells #[.pointer (some ⟨B,0,none⟩)] 22)) #[.int .i64 0,.int .i64 0,.int .i64 0] 89;rw [World.size_alloc] at h;exact (h.alloc _).alloc _
 have bU:Blk ((((W.alloc (.cells #[.pointer (some ⟨B,0,none⟩)] 22)).alloc (.cells #[.int .i64 0,.int .i64 0,.int .i64 0] 89)).alloc (.cells #[.func (.func 161) #[] #[.pointer (some ⟨W.heap.size,0,none⟩)]] 133)).alloc (.cells #[.func (.func 163) #[] #[.pointer (some ⟨W.heap.size,0,none⟩),.pointer (some ⟨W.heap.size+2,0,none⟩)]] 133)).drew (W.heap.size+2) #[.func (.func 161) #[] #[.pointer (some ⟨W.heap.size,0,none⟩)]] 133:=by
  have h:=Blk.new ((W.alloc (.cells #[.pointer (some ⟨B,0,none⟩)] 22)).alloc (.cells #[.int .i64 0,.int .i64 0,.int .i64 0] 89)) #[.func (.func 161) #[] #[.pointer (some ⟨W.heap.size,0,none⟩)]] 133;rw [World.size_alloc,World.size_alloc] at h;exact h.alloc _
 have bV:Blk ((((W.alloc (.cells #[.pointer (some ⟨B,0,none⟩)] 22)).alloc (.cells #[.int .i64 0,.int .i64 0,.int .i64 0] 89)).alloc (.cells #[.func (.func 161) #[] #[.pointer (some ⟨W.heap.size,0,none⟩)]] 133)).alloc (.cells #[.func (.func 163) #[] #[.pointer (some ⟨W.heap.size,0,none⟩),.pointer (some ⟨W.heap.size+2,0,none⟩)]] 133)).drew (W.heap.size+3) #[.func (.func 163) #[] #[.pointer (some ⟨W.heap.size,0,none⟩),.pointer (some ⟨W.heap.size+2,0,none⟩)]] 133:=by
  have h:=Blk.new (((W.alloc (.cells #[.pointer (some ⟨B,0,none⟩)] 22)).alloc (.cells #[.int .i64 0,.int .i64 0,.int .i64 0] 89)).alloc (.cells #[.func (.func 161) #[] #[.pointer (some ⟨W.heap.size,0,none⟩)]] 133)) #[.func (.func 163) #[] #[.pointer (some ⟨W.heap.size,0,none⟩),.pointer (some ⟨W.heap.size+2,0,none⟩)]] 133;rw [World.size_alloc,World.size_alloc,World.size_alloc] at h;exact h
 obtain ⟨a0,a1,a2,a3,a4,a5,a6,a7,c0,c1,c2,c3,c4,c5,c6,c7,us,tb⟩:=h.tabs;have hS:StF ((((W.alloc (.cells #[.pointer (some ⟨B,0,none⟩)] 22)).alloc (.cells #[.int .i64 0,.int .i64 0,.int .i64 0] 89)).alloc (.cells #[.func (.func 161) #[] #[.pointer (some ⟨W.heap.size,0,none⟩)]] 133)).alloc (.cells #[.func (.func 163) #[] #[.pointer (some ⟨W.heap.size,0,none⟩),.pointer (some ⟨W.heap.size+2,0,none⟩)]] 133)).drew W.heap.size (W.heap.size+1) B T a0 a1 a2 a3 a4 a5 a6 a7 c0 c1 c2 c3 c4 c5 c6 c7 us:=⟨⟨bB,h.below hB0⟩,bR,tb.below hB0⟩;have hV:BkV ((((W.alloc (.cells #[.pointer (some ⟨B,0,none⟩)] 22)).alloc (.cells #[.int .i64 0,.int .i64 0,.int .i64 0] 89)).alloc (.cells #[.func (.func 161) #[] #[.pointer (some ⟨W.heap.size,0,none⟩)]] 133)).alloc (.cells #[.func (.func 163) #[] #[.pointer (some ⟨W.heap.size,0,none⟩),.pointer (some ⟨W.heap.size+2,0,none⟩)]] 133)).drew W.heap.size (W.heap.size+2) (W.heap.size+3) B T:=⟨⟨hS.bp,bU⟩,bV⟩;have HF:Hz (∀ w1,Below ((((W.alloc (.cells #[.pointer (some ⟨B,0,none⟩)] 22)).alloc (.cells #[.int .i64 0,.int .i64 0,.int .i64 0] 89)).alloc (.cells #[.func (.func 161) #[] #[.pointer (some ⟨W.heap.size,0,none⟩)]] 133)).alloc (.cells #[.func (.func 163) #[] #[.pointer (some ⟨W.heap.size,0,none⟩),.pointer (some ⟨W.heap.size+2,0,none⟩)]] 133)).drew.heap.size ((((W.alloc (.cells #[.pointer (some ⟨B,0,none⟩)] 22)).alloc (.cells #[.int .i64 0,.int .i64 0,.int .i64 0] 89)).alloc (.cells #[.func (.func 161) #[] #[.pointer (some ⟨W.heap.size,0,none⟩)]] 133)).alloc (.cells #[.func (.func 163) #[] #[.pointer (some ⟨W.heap.size,0,none⟩),.pointer (some ⟨W.heap.size+2,0,none⟩)]] 133)).drew w1→StF w1 W.heap.size (W.heap.size+1) B T a0 a1 a2 a3 a4 a5 a6 a7 c0 c1 c2 c3 c4 c5 c6 c7 us∧BkV w1 W.heap.size (W.heap.size+2) (W.heap.size+3) B T):=kz (fun w1 h =>⟨hS.below h,hV.below h⟩);have HB:=kz hB0;have HO:=kz hO;have HZ:=kz hz;clear hB0 bB bR bU bV h tb hS hV hO hz;obtain ⟨x0,hx0⟩:∃ x,zg 5 T.fo mp0 (fun x =>if (zk x.2).any (fun r => !zO T r) then 35 else 0)=x:=⟨_,rfl⟩;obtain ⟨x1,hx1⟩:∃ x,zg 6 T.lk mp0 (fun x =>if (zk x.2).any (fun r => !zO T r || Yd T.lk r) then 36 else 0)=x:=⟨_,rfl⟩;have HOK:Hz (∀ x ∈ [x0,x1],OkW x):=kz (by
  intro x hx;simp only [List.mem_cons,List.not_mem_nil,or_false] at hx;rcases hx with rfl | rfl
  ·rw [← hx0];exact zR _ _ _ _
  ·rw [← hx1];exact zR _ _ _ _)
 have hfin:JI T=orW [x0,x1]:=by
  unfold JI;rw [hx0,hx1]
 rw [hfin];have HX0:=kz hx0;have HX1:=kz hx1;clear hfin hx0 hx1;go_enter Tryz.func92,Tryz.ntmps92;go_wp2_with fail
 generalize ((((W.alloc _).alloc _).alloc _).alloc _)=w0 at *;clear hmf;refine zn hmx 16 (by decide) (by kernel_rfl) (by kernel_rfl) (fun l a w => ∃ U:Nat→Value,a = { tmps:=#[.pointer (some ⟨B,0,none⟩),.pointer (some ⟨W.heap.size,0,none⟩),.pointer (some ⟨W.heap.size+1,0,none⟩),.pointer (some ⟨W.heap.size+2,0,none⟩),.pointer (some ⟨W.heap.size+3,0,none⟩),.func (.func 161) #[] #[.pointer (some ⟨W.heap.size,0,none⟩)],.func (.func 163) #[] #[.pointer (some ⟨W.heap.size,0,none⟩),.pointer (some ⟨W.heap.size+2,0,none⟩)],U 0,U 1,U 2,U 3,U 4,U 5,U 6,U 7,U 8,U 9,U 10,U 11,U 12,U 13,U 14,U 15],defers := [] }∧RgJ (w0.drew) (w0.drew.heap.size) (utD W.heap.size B T a0 a1 a2 a3 a4 a5 a6 a7 c0 c1 c2 c3 c4 c5 c6 c7 x0 x1) zkL l U w) ⟨fun _ =>undef,rfl,RgJ.start _ _ zD⟩ ?_ ?_
 ·rintro l a w i ⟨U,rfl,hJ⟩ hl hi hif;have h0:=(mem_ready.1 hi).1;have hlt:=Xo hl h0;have HJ:=kz hJ;clear hJ hl
  replace hlt:i < 17:=hlt
  obtain rfl | rfl | rfl | rfl | rfl | rfl | rfl | rfl | rfl | rfl | rfl | rfl | rfl | rfl | rfl | rfl:i=0∨i=1∨i=2∨i=3∨i=4∨i=5∨i=6∨i=7∨i=8∨i=9∨i=10∨i=11∨i=12∨i=13∨i=14∨i=15:=by omega
  any_goals refine Ky rfl (fun K hK =>?_)
  ·clear hlt hif;have q0:=(oz HF w (oz HJ).bel).1.bp.bb.cell 0;go_simp;exact hK _ _ ⟨za U 0 _,rfl,(oz HJ).put 0 _ h0 zl (Xq zl) rfl Xr (zJ rfl)⟩
  ·clear hlt hif;have d0:U 0=.pointer (some ⟨B,0,none⟩):=(oz HJ).val 0 (zb hi 0 (by kernel_rfl));go_simp;exact hK _ _ ⟨za U 1 _,(by rw [zc d0];rfl),(oz HJ).put 1 _ h0 zl (Xq zl) rfl Xr (zJ rfl)⟩
  ·clear hlt hif;have d1:U 1=.pointer (some ⟨B,0,none⟩):=(oz HJ).val 1 (zb hi 1 (by kernel_rfl));go_simp;exact hK _ _ ⟨za U 2 _,(by rw [zc d1];rfl),(oz HJ).put 2 _ h0 zl (Xq zl) rfl Xr (zJ rfl)⟩
  ·clear hlt hif;have d2:U 2=.pointer (some ⟨B,0,none⟩):=(oz HJ).val 2 (zb hi 2 (by kernel_rfl));go_simp;exact hK _ _ ⟨za U 3 _,(by rw [zc d2];rfl),(oz HJ).put 3 _ h0 zl (Xq zl) rfl Xr (zJ rfl)⟩
  ·clear hlt hif;have d3:U 3=.pointer (some ⟨B,4,none⟩):=(oz HJ).val 3 (zb hi 3 (by kernel_rfl));have q0:=(oz HF w (oz HJ).bel).1.tb.k4;go_simp;exact hK _ _ ⟨za U 4 _,(by rw [zc d3];rfl),(oz HJ).put 4 _ h0 zl (Xq zl) rfl Xr (zJ rfl)⟩
  ·clear hlt hif;have hmf:=oz HMF;go_simp;exact hK _ _ ⟨za U 5 _,rfl,(oz HJ).put 5 _ h0 zl (Xq zl) rfl Xr (zJ rfl)⟩
  ·clear hlt hif;have d4:U 4=.slice a4 T.fo.length c4:=(oz HJ).val 4 (zb hi 4 (by kernel_rfl));have d5:U 5=.func (.func 164) #[] #[.pointer (some ⟨W.heap.size+2,0,none⟩)]:=(oz HJ).val 5 (zb hi 5 (by kernel_rfl));have hf:=oz HF w (oz HJ).bel;go_simp;refine (Y8 T.fo (by have:=(oz HO).l4;omega) 5 (fun x =>if (zk x.2).any (fun r => !zO T r) then 35 else 0) 164 #[.pointer (some ⟨W.heap.size+2,0,none⟩)] (enters_of Tryz.func164 (by kernel_rfl) rfl) (fun w =>BkU w W.heap.size (W.heap.size+2) B T) (fun _ _ h hb =>h.below hb) (fun x hx w hw =>zeA (oz HO) W.heap.size (W.heap.size+2) B x.1 x.2 ((oz HZ).1 x hx) (Qf ((oz HO).f4 x hx).2) (fun r hr =>zc6 r hr) w hw) a4 c4 w hf.2.bu hf.1.tb.ti.r4).mono ?_;rw [oz HX0];rintro e w' ⟨rfl,hb⟩;exact hK _ _ ⟨za U 6 _,(by rw [zc d4,zc d5];rfl),(oz HJ).put 6 _ h0 hb (Xq hb) rfl Xr (zJ rfl)⟩
  ·clear hlt hif;have q0:=(oz HF w (oz HJ).bel).1.bp.bb.cell 0;go_simp;exact hK _ _ ⟨za U 7 _,rfl,(oz HJ).put 7 _ h0 zl (Xq zl) rfl Xr (zJ rfl)⟩
  ·clear hlt hif;have d7:U 7=.pointer (some ⟨B,0,none⟩):=(oz HJ).val 7 (zb hi 7 (by kernel_rfl));go_simp;exact hK _ _ ⟨za U 8 _,(by rw [zc d7];rfl),(oz HJ).put 8 _ h0 zl (Xq zl) rfl Xr (zJ rfl)⟩
  ·clear hlt hif;have d8:U 8=.pointer (some ⟨B,0,none⟩):=(oz HJ).val 8 (zb hi 8 (by kernel_rfl));go_simp;exact hK _ _ ⟨za U 9 _,(by rw [zc d8];rfl),(oz HJ).put 9 _ h0 zl (Xq zl) rfl Xr (zJ rfl)⟩
  ·clear hlt hif;have d9:U 9=.pointer (some ⟨B,0,none⟩):=(oz HJ).val 9 (zb hi 9 (by kernel_rfl));go_simp;exact hK _ _ ⟨za U 10 _,(by rw [zc d9];rfl),(oz HJ).put 10 _ h0 zl (Xq zl) rfl Xr (zJ rfl)⟩
  ·clear hlt hif;have d10:U 10=.pointer (some ⟨B,5,none⟩):=(oz HJ).val 10 (zb hi 10 (by kernel_rfl));have q0:=(oz HF w (oz HJ).bel).1.tb.k5;go_simp;exact hK _ _ ⟨za U 11 _,(by rw [zc d10];rfl),(oz HJ).put 11 _ h0 zl (Xq zl) rfl Xr (zJ rfl)⟩
  ·clear hlt hif;have hmf:=oz HMF;go_simp;exact hK _ _ ⟨za U 12 _,rfl,(oz HJ).put 12 _ h0 zl (Xq zl) rfl Xr (zJ rfl)⟩
  ·clear hlt hif;have d11:U 11=.slice a5 T.lk.length c5:=(oz HJ).val 11 (zb hi 11 (by kernel_rfl));have d12:U 12=.func (.func 166) #[] #[.pointer (some ⟨W.heap.size+3,0,none⟩)]:=(oz HJ).val 12 (zb hi 12 (by kernel_rfl));have hf:=oz HF w (oz HJ).bel;go_simp;refine (Y8 T.lk (by have:=(oz HO).l5;omega) 6 (fun x =>if (zk x.2).any (fun r => !zO T r || Yd T.lk r) then 36 else 0) 166 #[.pointer (some ⟨W.heap.size+3,0,none⟩)] (enters_of Tryz.func166 (by kernel_rfl) rfl) (fun w =>BkV w W.heap.size (W.heap.size+2) (W.heap.size+3) B T) (fun _ _ h hb =>h.below hb) (fun x hx w hw =>zez (oz HO) W.heap.size (W.heap.size+2) (W.heap.size+3) B x.1 x.2 ((oz HZ).2 x hx) (Qf ((oz HO).f5 x hx).2) (fun r hr =>zc6 r hr) w hw) a5 c5 w hf.2 hf.1.tb.ti.r5).mono ?_;rw [oz HX1];rintro e w' ⟨rfl,hb⟩;exact hK _ _ ⟨za U 13 _,(by rw [zc d11,zc d12];rfl),(oz HJ).put 13 _ h0 hb (Xq hb) rfl Xr (zJ rfl)⟩
  ·clear hlt hif;have d6:U 6=wrV x0:=(oz HJ).val 6 (zb hi 6 (by kernel_rfl));have d13:U 13=wrV x1:=(oz HJ).val 13 (zb hi 13 (by kernel_rfl));unfold wrV at d6 d13;go_simp;exact hK _ _ ⟨za U 14 _,(by rw [zc d6,zc d13];rfl),(oz HJ).put 14 _ h0 (zl.alloc zD _) (Xq (zl.alloc zD _)) ⟨_,rfl,by simp,X0 w _ [x0,x1] _ _ rfl rfl⟩ Xr (zJ rfl)⟩
  ·clear hlt hif;obtain ⟨g14,d14,l14,h14⟩:=(oz HJ).val 14 (zb hi 14 (by kernel_rfl));go_simp;refine (qT [x0,x1] (by simp) (oz HOK) _ 0 _ _ l14 h14).mono ?_;rintro e w' ⟨rfl,hb⟩;exact hK _ _ ⟨za U 15 _,(by rw [zc d14];rfl),(oz HJ).put 15 _ h0 hb (Xq hb) rfl Xr (zJ rfl)⟩
 ·rintro l a w ⟨U,rfl,hJ⟩ hall;have d15:U 15=wrV (orW [x0,x1]):=hJ.val 15 (hall 15 (by decide) (by decide));have HBJ:=kz (yB ((oz HB).trans (hJ.bel.mono (oz HB).size)) (oz HF w hJ.bel).1.rs);clear hJ hall;refine Ky rfl (fun K hK =>?_);obtain ⟨y,hy⟩:∃ y,orW [x0,x1]=y:=⟨_,rfl⟩;rw [hy] at d15;have HY:=kz hy;clear hy;obtain ⟨y0,y1,y2⟩:=y;unfold wrV at d15;have r0:=(oz HBJ).2.cell 0;have f0:=(oz HBJ).2.frozen 0;have r1:=(oz HBJ).2.cell 1;have f1:=(oz HBJ).2.frozen 1;have r2:=(oz HBJ).2.cell 2;have f2:=(oz HBJ).2.frozen 2;go_simp;refine hK _ _ ?_;clear hK;go_wp2_with fail
  exact XS (v:=wrV (y0,y1,y2)) (jA Tryz.results92 rfl (jG (oz HBJ).2 _ _ _) rfl) rfl ⟨by rw [oz HY],zY (oz HBJ).1 (by omega) (oz HBJ).1.size _ _ _⟩
end Go.Proofs.YthchopdfmchpkaaGreat
