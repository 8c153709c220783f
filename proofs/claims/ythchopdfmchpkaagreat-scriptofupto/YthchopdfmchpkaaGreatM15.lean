/- Texts of this claim, one behind the other. -/
import Derived.Test.YthchopdfmchpkaaGreatM14
import Derived.Laws.EntriesVeiled
import Derived.LoopN
namespace Go.Proofs.YthchopdfmchpkaaGreat
set_option linter.unusedVariables false
section
open Go.RowKit Go.Shelf Go.Maps
set_option maxRecDepth 100000
set_option maxHeartbeats 8000000
structure TwS (W w:World) (T:TV) (a0 a1 a2 a3 a4 a5 a6 a7:Option Addr) (c0 c1 c2 c3 c4 c5 c6 c7:Nat):Prop where
 bl:Below W.heap.size W w
 bx:Blk w W.heap.size #[.slice a0 T.sc.length c0,.slice a1 T.co.length c1,.slice a2 T.ma.length c2,.slice a3 T.pr.length c3,.slice a4 T.fo.length c4,.slice a5 T.lk.length c5,.slice a6 T.dr.length c6,.slice a7 T.al.length c7] 31
 rs:Blk w (W.heap.size+1) #[.int .i64 0,.int .i64 0,.int .i64 0] 89
theorem TwS.below {W w w':World} {T:TV} {a0 a1 a2 a3 a4 a5 a6 a7:Option Addr} {c0 c1 c2 c3 c4 c5 c6 c7:Nat} (h:TwS W w T a0 a1 a2 a3 a4 a5 a6 a7 c0 c1 c2 c3 c4 c5 c6 c7) (hb:Below w.heap.size w w'):TwS W w' T a0 a1 a2 a3 a4 a5 a6 a7 c0 c1 c2 c3 c4 c5 c6 c7 :=
 ⟨h.bl.trans (hb.mono h.bl.size),h.bx.below hb h.bx.lt,h.rs.below hb h.rs.lt⟩
theorem TwS.keptX {W w w':World} {T:TV} {a0 a1 a2 a3 a4 a5 a6 a7:Option Addr} {c0 c1 c2 c3 c4 c5 c6 c7:Nat} {X:Nat→Prop} (h:TwS W w T a0 a1 a2 a3 a4 a5 a6 a7 c0 c1 c2 c3 c4 c5 c6 c7) (hk:KeptX X w w') (hX:∀ b,X b→W.heap.size+2≤b):TwS W w' T a0 a1 a2 a3 a4 a5 a6 a7 c0 c1 c2 c3 c4 c5 c6 c7 :=
 ⟨h.bl.trans ⟨hk.os,hk.tape,hk.output,hk.size,fun k h1 =>hk.block k (zaY h1 h.bl.size) (fun q =>by have:=hX k q;omega)⟩,hk.blk h.bx (fun q =>by have:=hX _ q;omega),hk.blk h.rs (fun q =>by have:=hX _ q;omega)⟩
theorem QR {w a b:World} {M:Nat} (h:Below w.heap.size w a) (hk:KeptX (fun b =>b=M) a b) (hM:w.heap.size≤M):Below w.heap.size w b :=
 h.trans ⟨hk.os,hk.tape,hk.output,hk.size,fun k h1 =>hk.block k (zaY h1 h.size) (fun q =>by have:k=M:=q;omega)⟩
theorem zh9 {T:TV} {a0 a1 a2 a3 a4 a5 a6 a7:Option Addr} {us:List Value} {W w v:World} (hT:TabIn W T a0 a1 a2 a3 a4 a5 a6 a7 us) (hO:Jj T) (bl:Below W.heap.size W w) (c:Nat) {f:Value} {KB SB M:Nat} (hn:JR w v 201 139 200 242 9 f KB SB M) (hb:Below w.heap.size w v) {p q s:Int} (hx:zG 1 T.sc.length (twF T.sc sc0 (fun x =>x.1.data.toList))=(p,q,s)) :
  Calls Tryz.prog 122 #[.int .i64 1,.slice a0 T.sc.length c,f] v fun e v2 =>e=.returned (.agg #[.int .i64 p,.int .i64 q,.int .i64 s])∧Below w.heap.size w v2 :=
 (zfs T.sc us hT.lu hO.n0 (fun x hx =>(hO.z0 x hx).1) a0 c w.heap.size w v f KB SB M zD hb.size (hT.r0.below (bl.trans (hb.mono bl.size)) bl.size) hn (ScR.below hT.rs (bl.trans (hb.mono bl.size)))).mono (fun e v2 ⟨he,hk⟩ =>⟨by rw [he,hx];rfl,QR hb hk hn.mb⟩)
theorem zkq {T:TV} {a0 a1 a2 a3 a4 a5 a6 a7:Option Addr} {us:List Value} {W w v:World} (hT:TabIn W T a0 a1 a2 a3 a4 a5 a6 a7 us) (hO:Jj T) (hI:zdz T) (bl:Below W.heap.size W w) (c:Nat) {f:Value} {KB SB M:Nat} (hn:JR w v 202 141 202 238 21 f KB SB M) (hb:Below w.heap.size w v) {p q s:Int} (hx:zG 3 T.ma.length (twF T.ma ma0 (fun x =>x.1))=(p,q,s)) :
  Calls Tryz.prog 127 #[.int .i64 3,.slice a2 T.ma.length c,f] v fun e v2 =>e=.returned (.agg #[.int .i64 p,.int .i64 q,.int .i64 s])∧Below w.heap.size w v2 :=
 (ziQ T.ma hO.n2 hI.ma a2 c w.heap.size w v f KB SB M zD hb.size (hT.r2.below (bl.trans (hb.mono bl.size)) bl.size) hn).mono (fun e v2 ⟨he,hk⟩ =>⟨by rw [he,hx];rfl,QR hb hk hn.mb⟩)
theorem zj4 {W w v:World} (list:Int) {zs:List (Int × ByteArray)} {a:Option Addr} (hn0:zs.length≤1000000) (hd:∀ x ∈ zs,R32 x.1) (hr:RowC W W.heap.size a (yW zs)) (bl:Below W.heap.size W w) (c:Nat) {f:Value} {KB SB M:Nat} (hn:JR w v 203 137 198 238 21 f KB SB M) (hb:Below w.heap.size w v) {p q s:Int} (hx:zG list zs.length (twF zs mp0 (fun x =>x.1))=(p,q,s)) :
  Calls Tryz.prog 131 #[.int .i64 list,.slice a zs.length c,f] v fun e v2 =>e=.returned (.agg #[.int .i64 p,.int .i64 q,.int .i64 s])∧Below w.heap.size w v2 :=
 (zkb list zs hn0 hd a c w.heap.size w v f KB SB M zD hb.size (hr.below (bl.trans (hb.mono bl.size)) bl.size) hn).mono (fun e v2 ⟨he,hk⟩ =>⟨by rw [he,hx];rfl,QR hb hk hn.mb⟩)
theorem zkp {T:TV} {a0 a1 a2 a3 a4 a5 a6 a7:Option Addr} {c0 c1 c2 c3 c4 c5 c6 c7:Nat} {us:List Value} {W w:World} (hT:TabIn W T a0 a1 a2 a3 a4 a5 a6 a7 us) (hO:Jj T) (hI:zdz T) (h:TwS W w T a0 a1 a2 a3 a4 a5 a6 a7 c0 c1 c2 c3 c4 c5 c6 c7) {WB PB KB1 SB1 M1 KB2 SB2 M2:Nat} (hP:PrS w WB PB KB1 SB1 M1 KB2 SB2 M2 T.pr 0 0) (hm:W.heap.size+2≤M1∧W.heap.size+2≤M2) (c:Nat) {p q s:Int} (hx:zG 4 T.pr.length (twP T.pr)=(p,q,s)) :
  Calls Tryz.prog 129 #[.int .i64 4,.slice a3 T.pr.length c,.func (.func 142) #[] #[.pointer (some ⟨WB,0,none⟩),.pointer (some ⟨PB,0,none⟩)]] w fun e v2 =>e=.returned (.agg #[.int .i64 p,.int .i64 q,.int .i64 s])∧TwS W v2 T a0 a1 a2 a3 a4 a5 a6 a7 c0 c1 c2 c3 c4 c5 c6 c7 :=
 (ziP T.pr hO.n3 hI.pr a3 c W.heap.size w WB PB KB1 SB1 M1 KB2 SB2 M2 (hT.r3.below h.bl zD) hP h.bl.size (by omega)).mono (fun e v2 ⟨he,hk⟩ =>⟨by rw [he,hx];rfl,h.keptX hk (fun b hb =>by rcases hb with rfl | rfl <;> omega)⟩)
theorem zlb {w:World} {b:Nat} {l:List (Int × Int × Int)} {cs:Array Value} {t:TypeId} {y0 y1 y2:Int} (hl:l.length≤100) (hok:∀ x ∈ l,OkW x) (hb:b=w.heap.size) (hc:cs=(l.flatMap fun x => [Value.int .i64 x.1,.int .i64 x.2.1,.int .i64 x.2.2]).toArray) (hy:orW l=(y0,y1,y2)) (n c:Nat) (hn:n=l.length) :
  Calls Tryz.prog 120 #[.slice (some ⟨b,0,none⟩) n c] (w.alloc (.cells cs t)) fun e w' =>e=.returned (.agg #[.int .i64 y0,.int .i64 y1,.int .i64 y2])∧Below w.heap.size w w':=by
 subst hn;exact (qT l hl hok b 0 c _ (by rw [hb];simp) (X0 w b l cs t hb hc)).mono (fun e w' ⟨he,hb2⟩ =>⟨by rw [he,hy];rfl,((Below.refl _ w).alloc zD _).trans (hb2.mono (by simp))⟩)
theorem zfr (T:TV) (hO:Jj T) (hI:zdz T) (a0 a1 a2 a3 a4 a5 a6 a7:Option Addr) (c0 c1 c2 c3 c4 c5 c6 c7:Nat) (us:List Value) (W:World) (hT:TabIn W T a0 a1 a2 a3 a4 a5 a6 a7 us) :
  Calls Tryz.prog 84 #[.agg #[.slice a0 T.sc.length c0,.slice a1 T.co.length c1,.slice a2 T.ma.length c2,.slice a3 T.pr.length c3,.slice a4 T.fo.length c4,.slice a5 T.lk.length c5,.slice a6 T.dr.length c6,.slice a7 T.al.length c7]] W fun e w' =>e=.returned (wrV (yQ T))∧Below W.heap.size W w':=by
 have hmx:=zdA
 have hmf:=zkv
 have hB0:Below W.heap.size W ((W.alloc (.cells #[.slice a0 T.sc.length c0,.slice a1 T.co.length c1,.slice a2 T.ma.length c2,.slice a3 T.pr.length c3,.slice a4 T.fo.length c4,.slice a5 T.lk.length c5,.slice a6 T.dr.length c6,.slice a7 T.al.length c7] 31)).alloc (.cells #[.int .i64 0,.int .i64 0,.int .i64 0] 89)):=((Below.refl _ W).alloc zD _).alloc (by simp) _;have bR:=Blk.new (W.alloc (.cells #[.slice a0 T.sc.length c0,.slice a1 T.co.length c1,.slice a2 T.ma.length c2,.slice a3 T.pr.length c3,.slice a4 T.fo.length c4,.slice a5 T.lk.length c5,.slice a6 T.dr.length c6,.slice a7 T.al.length c7] 31)) #[.int .i64 0,.int .i64 0,.int .i64 0] 89;rw [World.size_alloc] at bR;have H0:Hz (TwS W _ T a0 a1 a2 a3 a4 a5 a6 a7 c0 c1 c2 c3 c4 c5 c6 c7):=kz ⟨hB0,(Blk.new W #[.slice a0 T.sc.length c0,.slice a1 T.co.length c1,.slice a2 T.ma.length c2,.slice a3 T.pr.length c3,.slice a4 T.fo.length c4,.slice a5 T.lk.length c5,.slice a6 T.dr.length c6,.slice a7 T.al.length c7] 31).alloc _,bR⟩;have HS0:Hz (((W.alloc (.cells #[.slice a0 T.sc.length c0,.slice a1 T.co.length c1,.slice a2 T.ma.length c2,.slice a3 T.pr.length c3,.slice a4 T.fo.length c4,.slice a5 T.lk.length c5,.slice a6 T.dr.length c6,.slice a7 T.al.length c7] 31)).alloc (.cells #[.int .i64 0,.int .i64 0,.int .i64 0] 89)).heap.size=W.heap.size+2):=kz (by simp);have HT:=kz (yB hT (yB hO hI));clear hB0 bR hT hI hO;obtain ⟨⟨p0,q0,s0⟩,hx0⟩:∃ x,zG 1 T.sc.length (twF T.sc sc0 (fun x =>x.1.data.toList))=x:=⟨_,rfl⟩;obtain ⟨⟨p1,q1,s1⟩,hx1⟩:∃ x,zG 3 T.ma.length (twF T.ma ma0 (fun x =>x.1))=x:=⟨_,rfl⟩;obtain ⟨⟨p2,q2,s2⟩,hx2⟩:∃ x,zG 4 T.pr.length (twP T.pr)=x:=⟨_,rfl⟩;obtain ⟨⟨p3,q3,s3⟩,hx3⟩:∃ x,zG 5 T.fo.length (twF T.fo mp0 (fun x =>x.1))=x:=⟨_,rfl⟩;obtain ⟨⟨p4,q4,s4⟩,hx4⟩:∃ x,zG 6 T.lk.length (twF T.lk mp0 (fun x =>x.1))=x:=⟨_,rfl⟩;have HOK:Hz (∀ x ∈ [(p0,q0,s0),(p1,q1,s1),(p2,q2,s2),(p3,q3,s3),(p4,q4,s4)],OkW x):=kz (by
  intro x hx;simp only [List.mem_cons,List.not_mem_nil,or_false] at hx;rcases hx with rfl | rfl | rfl | rfl | rfl
  ·rw [← hx0];exact qN _ _ _
  ·rw [← hx1];exact qN _ _ _
  ·rw [← hx2];exact qN _ _ _
  ·rw [← hx3];exact qN _ _ _
  ·rw [← hx4];exact qN _ _ _)
 have hfin:yQ T=orW [(p0,q0,s0),(p1,q1,s1),(p2,q2,s2),(p3,q3,s3),(p4,q4,s4)]:=by
  unfold yQ;rw [hx0,hx1,hx2,hx3,hx4]
 rw [hfin];obtain ⟨⟨y0,y1,y2⟩,hy⟩:∃ y,orW [(p0,q0,s0),(p1,q1,s1),(p2,q2,s2),(p3,q3,s3),(p4,q4,s4)]=y:=⟨_,rfl⟩;rw [hy];have HY:=kz hy;clear hy;have HX0:=kz hx0;have HX1:=kz hx1;have HX2:=kz hx2;have HX3:=kz hx3;have HX4:=kz hx4;clear hfin hx0 hx1 hx2 hx3 hx4;go_enter Tryz.func84,Tryz.ntmps84;go_wp2_with fail
 generalize (W.alloc _).alloc _=w0 at *;refine (zhN w0).mono ?_;rintro e w1 ⟨⟨f1,KB1,SB1,M1,rfl,hn1⟩,hb1⟩;obtain ⟨rfl,hag1,hk1,hs1,hm1⟩:=hn1;have H1:=kz (yB ((oz H0).below hb1) (yB hag1 (yB hk1 (yB hs1 hm1))));have hz1:=hb1.size;clear hag1 hk1 hs1 hm1 H0;go_wp2_with fail
 obtain ⟨WB,hWB⟩:∃ WB,WB=w1.heap.size:=⟨_,rfl⟩;have hb2:Below w1.heap.size w1 (w1.alloc (.cells #[.func (.func 199) #[] #[.pointer (some ⟨KB1,0,none⟩),.pointer (some ⟨SB1,0,none⟩)]] 191)):=zl.alloc zD _;have bW:=Blk.new w1 #[.func (.func 199) #[] #[.pointer (some ⟨KB1,0,none⟩),.pointer (some ⟨SB1,0,none⟩)]] 191;rw [← hWB] at bW ⊢;have H2:=kz (yB ((oz H1).1.below hb2) (yB ((oz H1).2.1.below hb2) (yB (oz H1).2.2 bW)));have hz2:(w1.alloc (.cells #[.func (.func 199) #[] #[.pointer (some ⟨KB1,0,none⟩),.pointer (some ⟨SB1,0,none⟩)]] 191)).heap.size=w1.heap.size+1:=by simp
 clear hb2 bW;generalize w1.alloc _=w2 at *;refine (zhO w2).mono ?_;rintro e w3 ⟨⟨f2,KB2,SB2,M2,rfl,hn2⟩,hb3⟩;obtain ⟨rfl,hag2,hk2,hs2,hm2⟩:=hn2;have hz3:=hb3.size;have H3:=kz (yB ((oz H2).1.below hb3) (yB ((oz H2).2.1.below hb3) (yB ((oz H2).2.2.2.below hb3 (oz H2).2.2.2.lt) (yB hag2 (yB hk2 (yB hs2 hm2))))));clear hag2 hk2 hs2 hm2;go_wp2_with fail
 obtain ⟨PB,hPB⟩:∃ PB,PB=w3.heap.size:=⟨_,rfl⟩;have hb4:Below w3.heap.size w3 (w3.alloc (.cells #[.func (.func 200) #[] #[.pointer (some ⟨KB2,0,none⟩),.pointer (some ⟨SB2,0,none⟩)]] 191)):=zl.alloc zD _;have bP:=Blk.new w3 #[.func (.func 200) #[] #[.pointer (some ⟨KB2,0,none⟩),.pointer (some ⟨SB2,0,none⟩)]] 191;rw [← hPB] at bP ⊢;have l1:=(oz H1).2.1.se.lt;have l2:=(oz H1).2.1.kb.lt;have l3:=(oz H1).2.1.sb.lt;have m2:=(oz H3).2.2.2.1.se.lt;have g1:=(oz H1).2.2;have g2:=(oz H3).2.2.2.2;have hPR:PrS (w3.alloc (.cells #[.func (.func 200) #[] #[.pointer (some ⟨KB2,0,none⟩),.pointer (some ⟨SB2,0,none⟩)]] 191)) WB PB KB1 SB1 M1 KB2 SB2 M2 T.pr 0 0:=⟨(oz H3).2.2.1.below hb4 (oz H3).2.2.1.lt,bP,(by rw [Yz];exact (oz H3).2.1.below hb4),(by rw [Yz];exact (oz H3).2.2.2.1.below hb4),by omega⟩;have H4:=kz (yB ((oz H3).1.below hb4) hPR);have HM:Hz (W.heap.size+2≤M1∧W.heap.size+2≤M2):=kz (by have:=oz HS0;omega);have HWB:=kz hWB;clear bP hb4 l1 l2 l3 m2 g1 g2 hPR H1 H2 H3 hWB hPB hz1 hz2 hz3 hb1 hb3;generalize w3.alloc _=w4 at *;have hbd:Below w4.heap.size w4 w4.drew:=⟨rfl,rfl,rfl,zD,fun _ _ =>rfl⟩;have H5:=kz (yB ((oz H4).1.below hbd) ((oz H4).2.below hbd));clear hbd H4;have z0:w4.drew.cell? ⟨W.heap.size,0,none⟩=some (.slice a0 T.sc.length c0):=(oz H5).1.bx.cell 0;have z2:w4.drew.cell? ⟨W.heap.size,2,none⟩=some (.slice a2 T.ma.length c2):=(oz H5).1.bx.cell 2;have z3:w4.drew.cell? ⟨W.heap.size,3,none⟩=some (.slice a3 T.pr.length c3):=(oz H5).1.bx.cell 3;have z4:w4.drew.cell? ⟨W.heap.size,4,none⟩=some (.slice a4 T.fo.length c4):=(oz H5).1.bx.cell 4;have z5:w4.drew.cell? ⟨W.heap.size,5,none⟩=some (.slice a5 T.lk.length c5):=(oz H5).1.bx.cell 5
 go_region_held3 (fun w' =>w'.cell? ⟨W.heap.size,0,none⟩=some (.slice a0 T.sc.length c0)∧w'.cell? ⟨W.heap.size,2,none⟩=some (.slice a2 T.ma.length c2)∧w'.cell? ⟨W.heap.size,3,none⟩=some (.slice a3 T.pr.length c3)∧w'.cell? ⟨W.heap.size,4,none⟩=some (.slice a4 T.fo.length c4)∧w'.cell? ⟨W.heap.size,5,none⟩=some (.slice a5 T.lk.length c5)) (first | with_reducible exact ⟨z0,z2,z3,z4,z5⟩ | with_reducible exact ⟨b0,b2,b3,b4,b5⟩ | with_reducible exact ⟨d0,d2,d3,d4,d5⟩ | with_reducible exact ⟨g0,g2,g3,g4,g5⟩ | with_reducible exact ⟨h0,h2,h3,h4,h5⟩ | with_reducible exact ⟨i0,i2,i3,i4,i5⟩ | with_reducible exact ⟨j0,j2,j3,j4,j5⟩ | with_reducible exact ⟨k0,k2,k3,k4,k5⟩ | with_reducible exact ⟨l0,l2,l3,l4,l5⟩ | with_reducible exact ⟨m0,m2,m3,m4,m5⟩ | with_reducible exact ⟨n0,n2,n3,n4,n5⟩ | with_reducible exact ⟨yK _ m0,yK _ m2,yK _ m3,yK _ m4,yK _ m5⟩ | with_reducible exact ⟨nx0 _ _ _,nx2 _ _ _,nx3 _ _ _,nx4 _ _ _,nx5 _ _ _⟩)
  (first
  | (go_at_call 120;refine (zlb (l := [(p0,q0,s0),(p1,q1,s1),(p2,q2,s2),(p3,q3,s3),(p4,q4,s4)]) (by simp) (oz HOK) (by first | rfl | simp) rfl (oz HY) _ _ rfl).mono ?_;rintro e v10 ⟨rfl,hb10⟩;have HE:=kz ((oz HD9).below hb10);have n0:v10.cell? ⟨W.heap.size,0,none⟩=some (.slice a0 T.sc.length c0):=(oz HE).bx.cell 0;have n2:v10.cell? ⟨W.heap.size,2,none⟩=some (.slice a2 T.ma.length c2):=(oz HE).bx.cell 2;have n3:v10.cell? ⟨W.heap.size,3,none⟩=some (.slice a3 T.pr.length c3):=(oz HE).bx.cell 3;have n4:v10.cell? ⟨W.heap.size,4,none⟩=some (.slice a4 T.fo.length c4):=(oz HE).bx.cell 4;have n5:v10.cell? ⟨W.heap.size,5,none⟩=some (.slice a5 T.lk.length c5):=(oz HE).bx.cell 5;have nx0:∀ x y z:Value,(((v10.setCell ⟨W.heap.size+1,0,none⟩ x).setCell ⟨W.heap.size+1,1,none⟩ y).setCell ⟨W.heap.size+1,2,none⟩ z).cell? ⟨W.heap.size,0,none⟩=some (.slice a0 T.sc.length c0):=fun x y z =>((((oz HE).bx.other (by omega) x).other (by omega) y).other (by omega) z).cell 0;have nx2:∀ x y z:Value,(((v10.setCell ⟨W.heap.size+1,0,none⟩ x).setCell ⟨W.heap.size+1,1,none⟩ y).setCell ⟨W.heap.size+1,2,none⟩ z).cell? ⟨W.heap.size,2,none⟩=some (.slice a2 T.ma.length c2):=fun x y z =>((((oz HE).bx.other (by omega) x).other (by omega) y).other (by omega) z).cell 2;have nx3:∀ x y z:Value,(((v10.setCell ⟨W.heap.size+1,0,none⟩ x).setCell ⟨W.heap.size+1,1,none⟩ y).setCell ⟨W.heap.size+1,2,none⟩ z).cell? ⟨W.heap.size,3,none⟩=some (.slice a3 T.pr.length c3):=fun x y z =>((((oz HE).bx.other (by omega) x).other (by omega) y).other (by omega) z).cell 3;have nx4:∀ x y z:Value,(((v10.setCell ⟨W.heap.size+1,0,none⟩ x).setCell ⟨W.heap.size+1,1,none⟩ y).setCell ⟨W.heap.size+1,2,none⟩ z).cell? ⟨W.heap.size,4,none⟩=some (.slice a4 T.fo.length c4):=fun x y z =>((((oz HE).bx.other (by omega) x).other (by omega) y).other (by omega) z).cell 4;have nx5:∀ x y z:Value,(((v10.setCell ⟨W.heap.size+1,0,none⟩ x).setCell ⟨W.heap.size+1,1,none⟩ y).setCell ⟨W.heap.size+1,2,none⟩ z).cell? ⟨W.heap.size,5,none⟩=some (.slice a5 T.lk.length c5):=fun x y z =>((((oz HE).bx.other (by omega) x).other (by omega) y).other (by omega) z).cell 5;have r0:=(oz HE).rs.cell 0;have r1:=(oz HE).rs.cell 1;have r2:=(oz HE).rs.cell 2;have e0:=(oz HE).rs.frozen 0;have e1:=(oz HE).rs.frozen 1;have e2:=(oz HE).rs.frozen 2;clear hb10)
  | (go_at_call 131;refine (zj4 6 (oz HT).2.1.n5 (oz HT).2.2.lk (oz HT).1.r5 (oz HD7).bl c5 (oz HD8).1 (oz HD8).2 (oz HX4)).mono ?_;rintro e v9 ⟨rfl,hk⟩;have HD9:=kz ((oz HD7).below hk);have m0:v9.cell? ⟨W.heap.size,0,none⟩=some (.slice a0 T.sc.length c0):=(oz HD9).bx.cell 0;have m2:v9.cell? ⟨W.heap.size,2,none⟩=some (.slice a2 T.ma.length c2):=(oz HD9).bx.cell 2;have m3:v9.cell? ⟨W.heap.size,3,none⟩=some (.slice a3 T.pr.length c3):=(oz HD9).bx.cell 3;have m4:v9.cell? ⟨W.heap.size,4,none⟩=some (.slice a4 T.fo.length c4):=(oz HD9).bx.cell 4;have m5:v9.cell? ⟨W.heap.size,5,none⟩=some (.slice a5 T.lk.length c5):=(oz HD9).bx.cell 5;clear hk)
  | (go_at_call 144;refine (zir v7).mono ?_;rintro e v8 ⟨⟨f8,KB8,SB8,M8,rfl,hn8⟩,hb8⟩;have HD8:=kz (yB hn8 hb8);have HC8:=kz ((oz HD7).below hb8);have l0:v8.cell? ⟨W.heap.size,0,none⟩=some (.slice a0 T.sc.length c0):=(oz HC8).bx.cell 0;have l2:v8.cell? ⟨W.heap.size,2,none⟩=some (.slice a2 T.ma.length c2):=(oz HC8).bx.cell 2;have l3:v8.cell? ⟨W.heap.size,3,none⟩=some (.slice a3 T.pr.length c3):=(oz HC8).bx.cell 3;have l4:v8.cell? ⟨W.heap.size,4,none⟩=some (.slice a4 T.fo.length c4):=(oz HC8).bx.cell 4;have l5:v8.cell? ⟨W.heap.size,5,none⟩=some (.slice a5 T.lk.length c5):=(oz HC8).bx.cell 5;clear hn8 hb8)
  | (go_at_call 131;refine (zj4 5 (oz HT).2.1.n4 (oz HT).2.2.fo (oz HT).1.r4 (oz HD5).bl c4 (oz HD6).1 (oz HD6).2 (oz HX3)).mono ?_;rintro e v7 ⟨rfl,hk⟩;have HD7:=kz ((oz HD5).below hk);have k0:v7.cell? ⟨W.heap.size,0,none⟩=some (.slice a0 T.sc.length c0):=(oz HD7).bx.cell 0;have k2:v7.cell? ⟨W.heap.size,2,none⟩=some (.slice a2 T.ma.length c2):=(oz HD7).bx.cell 2;have k3:v7.cell? ⟨W.heap.size,3,none⟩=some (.slice a3 T.pr.length c3):=(oz HD7).bx.cell 3;have k4:v7.cell? ⟨W.heap.size,4,none⟩=some (.slice a4 T.fo.length c4):=(oz HD7).bx.cell 4;have k5:v7.cell? ⟨W.heap.size,5,none⟩=some (.slice a5 T.lk.length c5):=(oz HD7).bx.cell 5;clear hk)
  | (go_at_call 144;refine (zir v5).mono ?_;rintro e v6 ⟨⟨f6,KB6,SB6,M6,rfl,hn6⟩,hb6⟩;have HD6:=kz (yB hn6 hb6);have HC6:=kz ((oz HD5).below hb6);have j0:v6.cell? ⟨W.heap.size,0,none⟩=some (.slice a0 T.sc.length c0):=(oz HC6).bx.cell 0;have j2:v6.cell? ⟨W.heap.size,2,none⟩=some (.slice a2 T.ma.length c2):=(oz HC6).bx.cell 2;have j3:v6.cell? ⟨W.heap.size,3,none⟩=some (.slice a3 T.pr.length c3):=(oz HC6).bx.cell 3;have j4:v6.cell? ⟨W.heap.size,4,none⟩=some (.slice a4 T.fo.length c4):=(oz HC6).bx.cell 4;have j5:v6.cell? ⟨W.heap.size,5,none⟩=some (.slice a5 T.lk.length c5):=(oz HC6).bx.cell 5;clear hn6 hb6)
  | (go_at_call 129;rw [← oz HWB];refine (zkp (oz HT).1 (oz HT).2.1 (oz HT).2.2 (oz HD4).1 (oz HD4).2 (oz HM) c3 (oz HX2)).mono ?_;rintro e v5 ⟨rfl,hk⟩;have HD5:=kz hk;have i0:v5.cell? ⟨W.heap.size,0,none⟩=some (.slice a0 T.sc.length c0):=(oz HD5).bx.cell 0;have i2:v5.cell? ⟨W.heap.size,2,none⟩=some (.slice a2 T.ma.length c2):=(oz HD5).bx.cell 2;have i3:v5.cell? ⟨W.heap.size,3,none⟩=some (.slice a3 T.pr.length c3):=(oz HD5).bx.cell 3;have i4:v5.cell? ⟨W.heap.size,4,none⟩=some (.slice a4 T.fo.length c4):=(oz HD5).bx.cell 4;have i5:v5.cell? ⟨W.heap.size,5,none⟩=some (.slice a5 T.lk.length c5):=(oz HD5).bx.cell 5;clear hk)
  | (go_at_call 127;refine (zkq (oz HT).1 (oz HT).2.1 (oz HT).2.2 (oz HD2).1.bl c2 (oz HD3).1 (oz HD3).2 (oz HX1)).mono ?_;rintro e v4 ⟨rfl,hk⟩;have HD4:=kz (yB ((oz HD2).1.below hk) ((oz HD2).2.below hk));have h0:v4.cell? ⟨W.heap.size,0,none⟩=some (.slice a0 T.sc.length c0):=(oz HD4).1.bx.cell 0;have h2:v4.cell? ⟨W.heap.size,2,none⟩=some (.slice a2 T.ma.length c2):=(oz HD4).1.bx.cell 2;have h3:v4.cell? ⟨W.heap.size,3,none⟩=some (.slice a3 T.pr.length c3):=(oz HD4).1.bx.cell 3;have h4:v4.cell? ⟨W.heap.size,4,none⟩=some (.slice a4 T.fo.length c4):=(oz HD4).1.bx.cell 4;have h5:v4.cell? ⟨W.heap.size,5,none⟩=some (.slice a5 T.lk.length c5):=(oz HD4).1.bx.cell 5;clear hk)
  | (go_at_call 140;refine (zje v2).mono ?_;rintro e v3 ⟨⟨f3,KB3,SB3,M3,rfl,hn3⟩,hb3⟩;have HD3:=kz (yB hn3 hb3);have HC3:=kz ((oz HD2).1.below hb3);have g0:v3.cell? ⟨W.heap.size,0,none⟩=some (.slice a0 T.sc.length c0):=(oz HC3).bx.cell 0;have g2:v3.cell? ⟨W.heap.size,2,none⟩=some (.slice a2 T.ma.length c2):=(oz HC3).bx.cell 2;have g3:v3.cell? ⟨W.heap.size,3,none⟩=some (.slice a3 T.pr.length c3):=(oz HC3).bx.cell 3;have g4:v3.cell? ⟨W.heap.size,4,none⟩=some (.slice a4 T.fo.length c4):=(oz HC3).bx.cell 4;have g5:v3.cell? ⟨W.heap.size,5,none⟩=some (.slice a5 T.lk.length c5):=(oz HC3).bx.cell 5;clear hn3 hb3)
  | (go_at_call 122;refine (zh9 (oz HT).1 (oz HT).2.1 (oz H5).1.bl c0 (oz HD1).1 (oz HD1).2 (oz HX0)).mono ?_;rintro e v2 ⟨rfl,hk⟩;have HD2:=kz (yB ((oz H5).1.below hk) ((oz H5).2.below hk));have d0:v2.cell? ⟨W.heap.size,0,none⟩=some (.slice a0 T.sc.length c0):=(oz HD2).1.bx.cell 0;have d2:v2.cell? ⟨W.heap.size,2,none⟩=some (.slice a2 T.ma.length c2):=(oz HD2).1.bx.cell 2;have d3:v2.cell? ⟨W.heap.size,3,none⟩=some (.slice a3 T.pr.length c3):=(oz HD2).1.bx.cell 3;have d4:v2.cell? ⟨W.heap.size,4,none⟩=some (.slice a4 T.fo.length c4):=(oz HD2).1.bx.cell 4;have d5:v2.cell? ⟨W.heap.size,5,none⟩=some (.slice a5 T.lk.length c5):=(oz HD2).1.bx.cell 5;clear hk)
  | (go_at_call 138;refine (zfW w4.drew).mono ?_;rintro e v1 ⟨⟨f1,KB4,SB4,M4,rfl,hn4⟩,hb4⟩;have HD1:=kz (yB hn4 hb4);have HC1:=kz ((oz H5).1.below hb4);have b0:v1.cell? ⟨W.heap.size,0,none⟩=some (.slice a0 T.sc.length c0):=(oz HC1).bx.cell 0;have b2:v1.cell? ⟨W.heap.size,2,none⟩=some (.slice a2 T.ma.length c2):=(oz HC1).bx.cell 2;have b3:v1.cell? ⟨W.heap.size,3,none⟩=some (.slice a3 T.pr.length c3):=(oz HC1).bx.cell 3;have b4:v1.cell? ⟨W.heap.size,4,none⟩=some (.slice a4 T.fo.length c4):=(oz HC1).bx.cell 4;have b5:v1.cell? ⟨W.heap.size,5,none⟩=some (.slice a5 T.lk.length c5):=(oz HC1).bx.cell 5;clear hn4 hb4))
 all_goals
  go_wp2_with fail
  exact XS (v:=wrV (y0,y1,y2)) (jA Tryz.results84 rfl (jG (oz HE).rs _ _ _) rfl) rfl ⟨rfl,zY (oz HE).bl (by omega) (oz HE).bl.size _ _ _⟩
end
section
open Go.RowKit Go.Shelf
set_option maxRecDepth 100000
set_option maxHeartbeats 8000000
structure RwS (W w:World) (T:TV) (a0 a1 a2 a3 a4 a5 a6 a7:Option Addr) (c0 c1 c2 c3 c4 c5 c6 c7:Nat):Prop where
 tw:TwS W w T a0 a1 a2 a3 a4 a5 a6 a7 c0 c1 c2 c3 c4 c5 c6 c7
 fs:Blk w (W.heap.size+2) #[.func (.func 82) #[] #[],.func (.func 83) #[] #[],.func (.func 84) #[] #[]] 92
theorem RwS.below {W w w':World} {T:TV} {a0 a1 a2 a3 a4 a5 a6 a7:Option Addr} {c0 c1 c2 c3 c4 c5 c6 c7:Nat} (h:RwS W w T a0 a1 a2 a3 a4 a5 a6 a7 c0 c1 c2 c3 c4 c5 c6 c7) (hb:Below w.heap.size w w'):RwS W w' T a0 a1 a2 a3 a4 a5 a6 a7 c0 c1 c2 c3 c4 c5 c6 c7:=⟨h.tw.below hb,h.fs.below hb h.fs.lt⟩
theorem zk4 (x y z:Int × Int × Int) (hz:OkW z):orW [x,y,z]=if x.1=0 then (if y.1=0 then z else y) else x:=by
 by_cases h1:x.1=0
 ·rw [ze h1,if_pos h1];by_cases h2:y.1=0
  ·rw [ze h2,if_pos h2];by_cases h3:z.1=0
   ·rw [ze h3,hz h3];rfl
   ·rw [zj h3]
  ·rw [zj h2,if_neg h2]
 ·rw [zj h1,if_neg h1]
theorem zaB (T:TV) (hO:Jj T) (hI:zdz T) (a0 a1 a2 a3 a4 a5 a6 a7:Option Addr) (c0 c1 c2 c3 c4 c5 c6 c7:Nat) (us:List Value) (W:World) (hT:TabIn W T a0 a1 a2 a3 a4 a5 a6 a7 us) :
  Calls Tryz.prog 58 #[.agg #[.slice a0 T.sc.length c0,.slice a1 T.co.length c1,.slice a2 T.ma.length c2,.slice a3 T.pr.length c3,.slice a4 T.fo.length c4,.slice a5 T.lk.length c5,.slice a6 T.dr.length c6,.slice a7 T.al.length c7]] W fun e w' =>e=.returned (wrV (orW [jL T,yT T,yQ T]))∧Below W.heap.size W w':=by
 have hB0:Below W.heap.size W (((W.alloc (.cells #[.slice a0 T.sc.length c0,.slice a1 T.co.length c1,.slice a2 T.ma.length c2,.slice a3 T.pr.length c3,.slice a4 T.fo.length c4,.slice a5 T.lk.length c5,.slice a6 T.dr.length c6,.slice a7 T.al.length c7] 31)).alloc (.cells #[.int .i64 0,.int .i64 0,.int .i64 0] 89)).alloc (.cells #[.func (.func 82) #[] #[],.func (.func 83) #[] #[],.func (.func 84) #[] #[]] 92)):=(((Below.refl _ W).alloc zD _).alloc (by simp) _).alloc (by simp;omega) _;have bR:=Blk.new (W.alloc (.cells #[.slice a0 T.sc.length c0,.slice a1 T.co.length c1,.slice a2 T.ma.length c2,.slice a3 T.pr.length c3,.slice a4 T.fo.length c4,.slice a5 T.lk.length c5,.slice a6 T.dr.length c6,.slice a7 T.al.length c7] 31)) #[.int .i64 0,.int .i64 0,.int .i64 0] 89;have bF:=Blk.new ((W.alloc (.cells #[.slice a0 T.sc.length c0,.slice a1 T.co.length c1,.slice a2 T.ma.length c2,.slice a3 T.pr.length c3,.slice a4 T.fo.length c4,.slice a5 T.lk.length c5,.slice a6 T.dr.length c6,.slice a7 T.al.length c7] 31)).alloc (.cells #[.int .i64 0,.int .i64 0,.int .i64 0] 89)) #[.func (.func 82) #[] #[],.func (.func 83) #[] #[],.func (.func 84) #[] #[]] 92;rw [World.size_alloc] at bR;rw [World.size_alloc,World.size_alloc] at bF;have H0:Hz (RwS W _ T a0 a1 a2 a3 a4 a5 a6 a7 c0 c1 c2 c3 c4 c5 c6 c7):=kz ⟨⟨hB0,((Blk.new W #[.slice a0 T.sc.length c0,.slice a1 T.co.length c1,.slice a2 T.ma.length c2,.slice a3 T.pr.length c3,.slice a4 T.fo.length c4,.slice a5 T.lk.length c5,.slice a6 T.dr.length c6,.slice a7 T.al.length c7] 31).alloc _).alloc _,bR.alloc _⟩,bF⟩;have C0:Hz (∀ w,Below W.heap.size W w→Calls Tryz.prog 82 #[.agg #[.slice a0 T.sc.length c0,.slice a1 T.co.length c1,.slice a2 T.ma.length c2,.slice a3 T.pr.length c3,.slice a4 T.fo.length c4,.slice a5 T.lk.length c5,.slice a6 T.dr.length c6,.slice a7 T.al.length c7]] w fun e w' =>e=.returned (wrV (jL T))∧Below w.heap.size w w'):=kz (fun w hb =>zci T hO.n0 a0 a1 a2 a3 a4 a5 a6 a7 c0 c1 c2 c3 c4 c5 c6 c7 us w (hT.lower hb));have C1:Hz (∀ w,Below W.heap.size W w→Calls Tryz.prog 83 #[.agg #[.slice a0 T.sc.length c0,.slice a1 T.co.length c1,.slice a2 T.ma.length c2,.slice a3 T.pr.length c3,.slice a4 T.fo.length c4,.slice a5 T.lk.length c5,.slice a6 T.dr.length c6,.slice a7 T.al.length c7]] w fun e w' =>e=.returned (wrV (yT T))∧Below w.heap.size w w'):=kz (fun w hb =>zaG T hO a0 a1 a2 a3 a4 a5 a6 a7 c0 c1 c2 c3 c4 c5 c6 c7 us w (hT.lower hb));have C2:Hz (∀ w,Below W.heap.size W w→Calls Tryz.prog 84 #[.agg #[.slice a0 T.sc.length c0,.slice a1 T.co.length c1,.slice a2 T.ma.length c2,.slice a3 T.pr.length c3,.slice a4 T.fo.length c4,.slice a5 T.lk.length c5,.slice a6 T.dr.length c6,.slice a7 T.al.length c7]] w fun e w' =>e=.returned (wrV (yQ T))∧Below w.heap.size w w'):=kz (fun w hb =>zfr T hO hI a0 a1 a2 a3 a4 a5 a6 a7 c0 c1 c2 c3 c4 c5 c6 c7 us w (hT.lower hb));rw [zk4 (jL T) (yT T) (yQ T) (show OkW (yQ T) from jJ _)];have HK:Hz (OkW (yQ T)):=kz (show OkW (yQ T) from jJ _);clear hB0 bR bF hO hI hT;generalize jL T=x at *;generalize yT T=y at *;generalize yQ T=z at *;obtain ⟨x0,x1,x2⟩:=x;obtain ⟨y0,y1,y2⟩:=y;obtain ⟨z0,z1,z2⟩:=z;unfold wrV at C0 C1 C2;dsimp only at C0 C1 C2 ⊢;by_cases hx:x0=0
 ·rw [if_pos hx];subst hx;by_cases hy:y0=0
  ·rw [if_pos hy];subst hy;by_cases hz:z0=0
   ·obtain ⟨rfl,hh⟩:=Prod.mk.inj (oz HK hz);obtain ⟨rfl,rfl⟩:=Prod.mk.inj hh;clear hz hh HK;go_enter Tryz.func58,Tryz.ntmps58;go_wp2_with fail
    generalize ((W.alloc _).alloc _).alloc _=u0 at *;refine wp_loop_rounds 4 ?_;have c0:=(oz H0).tw.bx.cell 0;have c1:=(oz H0).tw.bx.cell 1;have c2:=(oz H0).tw.bx.cell 2;have c3:=(oz H0).tw.bx.cell 3;have c4:=(oz H0).tw.bx.cell 4;have c5:=(oz H0).tw.bx.cell 5;have c6:=(oz H0).tw.bx.cell 6;have c7:=(oz H0).tw.bx.cell 7;have g0:=(oz H0).fs.cell 0;have HC:=kz (oz C0 u0 (oz H0).tw.bl);rw [rounds_succ];go_wp2_with (go_at_call 82;refine (oz HC).mono ?_;rintro e v0 ⟨rfl,hb⟩;have H1:=kz (((oz H0).below hb).below ((Below.refl _ v0).alloc zD (.cells #[.int .i64 0,.int .i64 x1,.int .i64 x2] 89)));clear hb)
    clear HC g0 c0 c1 c2 c3 c4 c5 c6 c7;generalize v0.alloc _=u1 at *;have c0:=(oz H1).tw.bx.cell 0;have c1:=(oz H1).tw.bx.cell 1;have c2:=(oz H1).tw.bx.cell 2;have c3:=(oz H1).tw.bx.cell 3;have c4:=(oz H1).tw.bx.cell 4;have c5:=(oz H1).tw.bx.cell 5;have c6:=(oz H1).tw.bx.cell 6;have c7:=(oz H1).tw.bx.cell 7;have g0:=(oz H1).fs.cell 1;have HC:=kz (oz C1 u1 (oz H1).tw.bl);rw [rounds_succ];go_wp2_with (go_at_call 83;refine (oz HC).mono ?_;rintro e v1 ⟨rfl,hb⟩;have H2:=kz (((oz H1).below hb).below ((Below.refl _ v1).alloc zD (.cells #[.int .i64 0,.int .i64 y1,.int .i64 y2] 89)));clear hb)
    clear HC g0 c0 c1 c2 c3 c4 c5 c6 c7;generalize v1.alloc _=u2 at *;have c0:=(oz H2).tw.bx.cell 0;have c1:=(oz H2).tw.bx.cell 1;have c2:=(oz H2).tw.bx.cell 2;have c3:=(oz H2).tw.bx.cell 3;have c4:=(oz H2).tw.bx.cell 4;have c5:=(oz H2).tw.bx.cell 5;have c6:=(oz H2).tw.bx.cell 6;have c7:=(oz H2).tw.bx.cell 7;have g0:=(oz H2).fs.cell 2;have HC:=kz (oz C2 u2 (oz H2).tw.bl);rw [rounds_succ];go_wp2_with (go_at_call 84;refine (oz HC).mono ?_;rintro e v2 ⟨rfl,hb⟩;have H3:=kz (((oz H2).below hb).below ((Below.refl _ v2).alloc zD (.cells #[.int .i64 0,.int .i64 0,.int .i64 0] 89)));clear hb;have r0:=(oz H3).tw.rs.cell 0;have r1:=(oz H3).tw.rs.cell 1;have r2:=(oz H3).tw.rs.cell 2;have e0:=(oz H3).tw.rs.frozen 0;have e1:=(oz H3).tw.rs.frozen 1;have e2:=(oz H3).tw.rs.frozen 2)
    clear HC g0 c0 c1 c2 c3 c4 c5 c6 c7;generalize v2.alloc _=u3 at *;rw [rounds_succ];go_wp2_with fail
    exact XS (v:=wrV (0,0,0)) (jA Tryz.results58 rfl (jG (oz H3).tw.rs _ _ _) rfl) rfl ⟨rfl,zY (oz H3).tw.bl (by omega) (oz H3).tw.bl.size _ _ _⟩
   ·have hz1:(z0 == 0)=false:=by simpa using hz
    clear HK;go_enter Tryz.func58,Tryz.ntmps58;go_wp2_with fail
    generalize ((W.alloc _).alloc _).alloc _=u0 at *;refine wp_loop_rounds 4 ?_;have c0:=(oz H0).tw.bx.cell 0;have c1:=(oz H0).tw.bx.cell 1;have c2:=(oz H0).tw.bx.cell 2;have c3:=(oz H0).tw.bx.cell 3;have c4:=(oz H0).tw.bx.cell 4;have c5:=(oz H0).tw.bx.cell 5;have c6:=(oz H0).tw.bx.cell 6;have c7:=(oz H0).tw.bx.cell 7;have g0:=(oz H0).fs.cell 0;have HC:=kz (oz C0 u0 (oz H0).tw.bl);rw [rounds_succ];go_wp2_with (go_at_call 82;refine (oz HC).mono ?_;rintro e v0 ⟨rfl,hb⟩;have H1:=kz (((oz H0).below hb).below ((Below.refl _ v0).alloc zD (.cells #[.int .i64 0,.int .i64 x1,.int .i64 x2] 89)));clear hb)
    clear HC g0 c0 c1 c2 c3 c4 c5 c6 c7;generalize v0.alloc _=u1 at *;have c0:=(oz H1).tw.bx.cell 0;have c1:=(oz H1).tw.bx.cell 1;have c2:=(oz H1).tw.bx.cell 2;have c3:=(oz H1).tw.bx.cell 3;have c4:=(oz H1).tw.bx.cell 4;have c5:=(oz H1).tw.bx.cell 5;have c6:=(oz H1).tw.bx.cell 6;have c7:=(oz H1).tw.bx.cell 7;have g0:=(oz H1).fs.cell 1;have HC:=kz (oz C1 u1 (oz H1).tw.bl);rw [rounds_succ];go_wp2_with (go_at_call 83;refine (oz HC).mono ?_;rintro e v1 ⟨rfl,hb⟩;have H2:=kz (((oz H1).below hb).below ((Below.refl _ v1).alloc zD (.cells #[.int .i64 0,.int .i64 y1,.int .i64 y2] 89)));clear hb)
    clear HC g0 c0 c1 c2 c3 c4 c5 c6 c7;generalize v1.alloc _=u2 at *;have c0:=(oz H2).tw.bx.cell 0;have c1:=(oz H2).tw.bx.cell 1;have c2:=(oz H2).tw.bx.cell 2;have c3:=(oz H2).tw.bx.cell 3;have c4:=(oz H2).tw.bx.cell 4;have c5:=(oz H2).tw.bx.cell 5;have c6:=(oz H2).tw.bx.cell 6;have c7:=(oz H2).tw.bx.cell 7;have g0:=(oz H2).fs.cell 2;have HC:=kz (oz C2 u2 (oz H2).tw.bl);rw [rounds_succ];go_wp2_with (go_at_call 84;refine (oz HC).mono ?_;rintro e v2 ⟨rfl,hb⟩;have H3:=kz (((oz H2).below hb).below ((Below.refl _ v2).alloc zD (.cells #[.int .i64 z0,.int .i64 z1,.int .i64 z2] 89)));clear hb;have r0:=(oz H3).tw.rs.cell 0;have r1:=(oz H3).tw.rs.cell 1;have r2:=(oz H3).tw.rs.cell 2;have e0:=(oz H3).tw.rs.frozen 0;have e1:=(oz H3).tw.rs.frozen 1;have e2:=(oz H3).tw.rs.frozen 2)
    exact XS (v:=wrV (z0,z1,z2)) (jA Tryz.results58 rfl (jG (oz H3).tw.rs _ _ _) rfl) rfl ⟨rfl,zY (oz H3).tw.bl (by omega) (oz H3).tw.bl.size _ _ _⟩
  ·rw [if_neg hy];have hy1:(y0 == 0)=false:=by simpa using hy
   clear HK;go_enter Tryz.func58,Tryz.ntmps58;go_wp2_with fail
   generalize ((W.alloc _).alloc _).alloc _=u0 at *;refine wp_loop_rounds 4 ?_;have c0:=(oz H0).tw.bx.cell 0;have c1:=(oz H0).tw.bx.cell 1;have c2:=(oz H0).tw.bx.cell 2;have c3:=(oz H0).tw.bx.cell 3;have c4:=(oz H0).tw.bx.cell 4;have c5:=(oz H0).tw.bx.cell 5;have c6:=(oz H0).tw.bx.cell 6;have c7:=(oz H0).tw.bx.cell 7;have g0:=(oz H0).fs.cell 0;have HC:=kz (oz C0 u0 (oz H0).tw.bl);rw [rounds_succ];go_wp2_with (go_at_call 82;refine (oz HC).mono ?_;rintro e v0 ⟨rfl,hb⟩;have H1:=kz (((oz H0).below hb).below ((Below.refl _ v0).alloc zD (.cells #[.int .i64 0,.int .i64 x1,.int .i64 x2] 89)));clear hb)
   clear HC g0 c0 c1 c2 c3 c4 c5 c6 c7;generalize v0.alloc _=u1 at *;have c0:=(oz H1).tw.bx.cell 0;have c1:=(oz H1).tw.bx.cell 1;have c2:=(oz H1).tw.bx.cell 2;have c3:=(oz H1).tw.bx.cell 3;have c4:=(oz H1).tw.bx.cell 4;have c5:=(oz H1).tw.bx.cell 5;have c6:=(oz H1).tw.bx.cell 6;have c7:=(oz H1).tw.bx.cell 7;have g0:=(oz H1).fs.cell 1;have HC:=kz (oz C1 u1 (oz H1).tw.bl);rw [rounds_succ];go_wp2_with (go_at_call 83;refine (oz HC).mono ?_;rintro e v1 ⟨rfl,hb⟩;have H2:=kz (((oz H1).below hb).below ((Below.refl _ v1).alloc zD (.cells #[.int .i64 y0,.int .i64 y1,.int .i64 y2] 89)));clear hb;have r0:=(oz H2).tw.rs.cell 0;have r1:=(oz H2).tw.rs.cell 1;have r2:=(oz H2).tw.rs.cell 2;have e0:=(oz H2).tw.rs.frozen 0;have e1:=(oz H2).tw.rs.frozen 1;have e2:=(oz H2).tw.rs.frozen 2)
   exact XS (v:=wrV (y0,y1,y2)) (jA Tryz.results58 rfl (jG (oz H2).tw.rs _ _ _) rfl) rfl ⟨rfl,zY (oz H2).tw.bl (by omega) (oz H2).tw.bl.size _ _ _⟩
 ·rw [if_neg hx];have hx1:(x0 == 0)=false:=by simpa using hx
  clear HK;go_enter Tryz.func58,Tryz.ntmps58;go_wp2_with fail
  generalize ((W.alloc _).alloc _).alloc _=u0 at *;refine wp_loop_rounds 4 ?_;have c0:=(oz H0).tw.bx.cell 0;have c1:=(oz H0).tw.bx.cell 1;have c2:=(oz H0).tw.bx.cell 2;have c3:=(oz H0).tw.bx.cell 3;have c4:=(oz H0).tw.bx.cell 4;have c5:=(oz H0).tw.bx.cell 5;have c6:=(oz H0).tw.bx.cell 6;have c7:=(oz H0).tw.bx.cell 7;have g0:=(oz H0).fs.cell 0;have HC:=kz (oz C0 u0 (oz H0).tw.bl);rw [rounds_succ];go_wp2_with (go_at_call 82;refine (oz HC).mono ?_;rintro e v0 ⟨rfl,hb⟩;have H1:=kz (((oz H0).below hb).below ((Below.refl _ v0).alloc zD (.cells #[.int .i64 x0,.int .i64 x1,.int .i64 x2] 89)));clear hb;have r0:=(oz H1).tw.rs.cell 0;have r1:=(oz H1).tw.rs.cell 1;have r2:=(oz H1).tw.rs.cell 2;have e0:=(oz H1).tw.rs.frozen 0;have e1:=(oz H1).tw.rs.frozen 1;have e2:=(oz H1).tw.rs.frozen 2)
  exact XS (v:=wrV (x0,x1,x2)) (jA Tryz.results58 rfl (jG (oz H1).tw.rs _ _ _) rfl) rfl ⟨rfl,zY (oz H1).tw.bl (by omega) (oz H1).tw.bl.size _ _ _⟩
set_option maxRecDepth 100000
set_option maxHeartbeats 8000000
def Yj (p:Int × Int→Bool) (zs:List (Int × Int)):Int:=match (List.range zs.length).find? (fun j =>p (zs.getD j (0,0))) with
 | some j =>(j:Int)
 | none => -1
theorem Q8 (p:Int × Int→Bool) (zs:List (Int × Int)) (k:Nat) (hk:k < zs.length) (h0:∀ i,i < k→p (zs.getD i (0,0))=false) (h1:p (zs.getD k (0,0))=true):Yj p zs=k:=by
 have:(List.range zs.length).find? (fun j =>p (zs.getD j (0,0)))=some k:=by
  rw [List.find?_range_eq_some];exact ⟨h1,List.mem_range.2 hk,fun j hj =>by simp only [h0 j hj];rfl⟩
 unfold Yj;rw [this]
theorem Zt (p:Int × Int→Bool) (zs:List (Int × Int)) (h0:∀ i,i < zs.length→p (zs.getD i (0,0))=false):Yj p zs = -1:=by
 have:(List.range zs.length).find? (fun j =>p (zs.getD j (0,0)))=none:=by
  rw [List.find?_range_eq_none];intro j hj;simp only [h0 j hj];rfl
 unfold Yj;rw [this]
theorem Q9 (p:Int × Int→Bool) (zs:List (Int × Int)):decide (0≤Yj p zs)=zs.any p:=by
 cases h:zs.any p with
 | true =>
  unfold Yj;cases hf:(List.range zs.length).find? (fun j =>p (zs.getD j (0,0))) with
  | some j =>simp
  | none =>
   exfalso
   rw [List.find?_range_eq_none] at hf;obtain ⟨x,hx,hp⟩:=List.any_eq_true.1 h;obtain ⟨i,hi,rfl⟩:=List.mem_iff_getElem.1 hx;have:=hf i hi;simp [List.getD,hi,hp] at this
 | false =>
  rw [Zt p zs]
  ·decide
  ·intro i hi;have:=List.any_eq_false.1 h zs[i] (List.getElem_mem hi);simpa [List.getD,hi] using this
theorem zaJ (a:Option Addr) (cap:Nat) (zs:List (Int × Int)) (hz:zs.length≤1073741824) (w:World) (hr:RowP w a zs) :
  Calls Tryz.prog 226 #[.slice a zs.length cap,.func (.func 207) #[] #[]] w fun e w' =>e=.returned (.int .i64 (Yj (fun x => !yF x) zs))∧Below w.heap.size w w':=by
 have HR:=kz hr;have hzi:(zs.length:Int)≤1073741824:=by omega
 clear hr;go_enter Tryz.func226,Tryz.ntmps226;go_wp2;go_loopw [8] (fun i wr => ∃ k:Nat,i=.int .i64 k∧k≤zs.length∧Hz (∀ i,i < k→(fun x => !yF x) (zs.getD i (0,0))=false)∧Hz (Below w.heap.size w wr)) (fun i _ =>zs.length - (intOf i).toNat)
 case atStart =>exact ⟨0,rfl,by omega,kz (fun i hi =>by omega),kz zl⟩
 case round =>
  obtain ⟨k,rfl,hk,HZ,HB⟩:=hrel;by_cases hkn:k < zs.length
  ·have hk1:(k:Int) < (zs.length:Int):=by omega
   have hk2:=Zp k
   obtain ⟨x,hx⟩:∃ x,zs[k]?=some x:=⟨_,qR hkn⟩;have hgd:zs.getD k (0,0)=x:=by simp [List.getD,hx]
   obtain ⟨g,o,rfl,hg,hc⟩:=oz HR (by omega);have c0:=((oz HB).cell (p:=⟨g,o+k*2,none⟩) hg).trans (hc k x hx).1;have c1:=((oz HB).cell (p:=⟨g,o+k*2+1,none⟩) hg).trans (hc k x hx).2;have HN:=kz (fun w =>Q1 x w);have HH:=kz (fun h =>Q8 (fun x => !yF x) zs k hkn (oz HZ) h);rw [hgd] at HH;have HG:=kz hgd;clear hc hx hgd;cases hp:(!yF x) with
   | true =>
    have HH1:=kz (oz HH hp);rw [hp] at HN;obtain ⟨lo,hi⟩:=x;simp only at c0 c1;clear hp;go_wp2_with fail
    refine (oz HN _).mono ?_;rintro e w2 ⟨rfl,hb⟩;have HB2:=kz ((oz HB).trans (hb.mono (oz HB).size));clear hb;go_wp2;go_ret;exact ⟨by rw [oz HH1];rfl,oz HB2⟩
   | false =>
    have HZ1:Hz (∀ i,i < k+1→(fun x => !yF x) (zs.getD i (0,0))=false):=kz (fun i hi =>by
     by_cases e:i=k
     ·subst e;rw [oz HG];exact hp
     ·exact oz HZ i (by omega))
    rw [hp] at HN;obtain ⟨lo,hi⟩:=x;simp only at c0 c1;clear hp;go_wp2_with fail
    refine (oz HN _).mono ?_;rintro e w2 ⟨rfl,hb⟩;have HB2:=kz ((oz HB).trans (hb.mono (oz HB).size));clear hb;go_wp2;refine ⟨⟨k+1,by simp,by omega,HZ1,HB2⟩, ?_⟩;simp [intOf];omega
  ·have hk1:¬ (k:Int) < (zs.length:Int):=by omega
   obtain rfl:k=zs.length:=by omega
   have HV:=kz (Zt (fun x => !yF x) zs (oz HZ));go_wp2;go_ret;exact ⟨by rw [oz HV];rfl,oz HB⟩
theorem QC (a:Option Addr) (cap:Nat) (zs:List (Int × Int)) (hz:zs.length≤1073741824) (w:World) (hr:RowP w a zs) :
  Calls Tryz.prog 206 #[.slice a zs.length cap,.func (.func 207) #[] #[]] w fun e w' =>e=.returned (.bool (zs.any (fun x => !yF x)))∧Below w.heap.size w w':=by
 have HI:=kz (zaJ a cap zs hz w hr);have HA:=kz (Q9 (fun x => !yF x) zs);clear hr;generalize zs.any (fun x => !yF x)=r at HA ⊢;generalize Yj (fun x => !yF x) zs=i at HI HA;go_enter Tryz.func206,Tryz.ntmps206;go_wp2_with fail
 refine (oz HI).mono ?_;rintro e w2 ⟨rfl,hb⟩;have HB:=kz hb;clear hb;go_wp2;go_ret;exact ⟨by rw [← oz HA];rfl,oz HB⟩
theorem zaK (a:Option Addr) (cap:Nat) (zs:List (Int × Int)) (hz:zs.length≤1073741824) (w:World) (hr:RowP w a zs) :
  Calls Tryz.prog 226 #[.slice a zs.length cap,.func (.func 208) #[] #[]] w fun e w' =>e=.returned (.int .i64 (Yj (fun x =>decide (x.2 < x.1)) zs))∧Below w.heap.size w w':=by
 have HR:=kz hr;have hzi:(zs.length:Int)≤1073741824:=by omega
 clear hr;go_enter Tryz.func226,Tryz.ntmps226;go_wp2;go_loopw [8] (fun i wr => ∃ k:Nat,i=.int .i64 k∧k≤zs.length∧Hz (∀ i,i < k→(fun x =>decide (x.2 < x.1)) (zs.getD i (0,0))=false)∧Hz (Below w.heap.size w wr)) (fun i _ =>zs.length - (intOf i).toNat)
 case atStart =>exact ⟨0,rfl,by omega,kz (fun i hi =>by omega),kz zl⟩
 case round =>
  obtain ⟨k,rfl,hk,HZ,HB⟩:=hrel;by_cases hkn:k < zs.length
  ·have hk1:(k:Int) < (zs.length:Int):=by omega
   have hk2:=Zp k
   obtain ⟨x,hx⟩:∃ x,zs[k]?=some x:=⟨_,qR hkn⟩;have hgd:zs.getD k (0,0)=x:=by simp [List.getD,hx]
   obtain ⟨g,o,rfl,hg,hc⟩:=oz HR (by omega);have c0:=((oz HB).cell (p:=⟨g,o+k*2,none⟩) hg).trans (hc k x hx).1;have c1:=((oz HB).cell (p:=⟨g,o+k*2+1,none⟩) hg).trans (hc k x hx).2;have HN:=kz (fun w =>ZY x w);have HH:=kz (fun h =>Q8 (fun x =>decide (x.2 < x.1)) zs k hkn (oz HZ) h);rw [hgd] at HH;have HG:=kz hgd;clear hc hx hgd;cases hp:(decide (x.2 < x.1)) with
   | true =>
    have HH1:=kz (oz HH hp);rw [hp] at HN;obtain ⟨lo,hi⟩:=x;simp only at c0 c1;clear hp;go_wp2_with fail
    refine (oz HN _).mono ?_;rintro e w2 ⟨rfl,hb⟩;have HB2:=kz ((oz HB).trans (hb.mono (oz HB).size));clear hb;go_wp2;go_ret;exact ⟨by rw [oz HH1];rfl,oz HB2⟩
   | false =>
    have HZ1:Hz (∀ i,i < k+1→(fun x =>decide (x.2 < x.1)) (zs.getD i (0,0))=false):=kz (fun i hi =>by
     by_cases e:i=k
     ·subst e;rw [oz HG];exact hp
     ·exact oz HZ i (by omega))
    rw [hp] at HN;obtain ⟨lo,hi⟩:=x;simp only at c0 c1;clear hp;go_wp2_with fail
    refine (oz HN _).mono ?_;rintro e w2 ⟨rfl,hb⟩;have HB2:=kz ((oz HB).trans (hb.mono (oz HB).size));clear hb;go_wp2;refine ⟨⟨k+1,by simp,by omega,HZ1,HB2⟩, ?_⟩;simp [intOf];omega
  ·have hk1:¬ (k:Int) < (zs.length:Int):=by omega
   obtain rfl:k=zs.length:=by omega
   have HV:=kz (Zt (fun x =>decide (x.2 < x.1)) zs (oz HZ));go_wp2;go_ret;exact ⟨by rw [oz HV];rfl,oz HB⟩
theorem QD (a:Option Addr) (cap:Nat) (zs:List (Int × Int)) (hz:zs.length≤1073741824) (w:World) (hr:RowP w a zs) :
  Calls Tryz.prog 206 #[.slice a zs.length cap,.func (.func 208) #[] #[]] w fun e w' =>e=.returned (.bool (zs.any (fun x =>decide (x.2 < x.1))))∧Below w.heap.size w w':=by
 have HI:=kz (zaK a cap zs hz w hr);have HA:=kz (Q9 (fun x =>decide (x.2 < x.1)) zs);clear hr;generalize zs.any (fun x =>decide (x.2 < x.1))=r at HA ⊢;generalize Yj (fun x =>decide (x.2 < x.1)) zs=i at HI HA;go_enter Tryz.func206,Tryz.ntmps206;go_wp2_with fail
 refine (oz HI).mono ?_;rintro e w2 ⟨rfl,hb⟩;have HB:=kz hb;clear hb;go_wp2;go_ret;exact ⟨by rw [← oz HA];rfl,oz HB⟩
set_option maxRecDepth 100000
set_option maxHeartbeats 8000000
theorem zdM:Spread []:=⟨fun x h =>by simp at h,fun i j x y _ h =>by simp at h⟩
theorem ziH:(Tryz.prog.info? 3).map (fun i =>(i.zero,i.size,i.bytes))=some (some (.int .i64 0),1,8):=by kernel_rfl
theorem zdf (w2:World) (v:Value):∀ j u,[v][j]?=some u→(w2.alloc (.cells #[v] 3)).cell? ((⟨w2.heap.size,0,none⟩:Addr).add j)=some u:=by
 intro j u hj;rw [Xb];cases j with
 | zero =>
  simp at hj;subst hj;exact (Blk.new w2 #[v] 3).cell 0
 | succ j =>simp at hj
theorem zbg {wm w2 w3:World} {B X:Nat} {cx:Array Value} {tmp:Obj} (hB:Blk wm B #[.slice none 0 0,.slice none 0 0] 226) (hX:Blk wm X cx 94) (hb:Below wm.heap.size wm w2) (hg:(w2.alloc tmp).grownBy w3 none) :
  Blk w3 B #[.slice none 0 0,.slice none 0 0] 226∧Blk w3 X cx 94 :=
 ⟨((hB.below hb hB.lt).alloc tmp).kept hg (by simp),((hX.below hb hX.lt).alloc tmp).kept hg (by simp)⟩
def Laid (W:World) (B lo0:Nat) (x:Int × Int):Prop := ∃ va vb,Blk W B #[va,vb] 226∧W.ownsRow lo0 94 2 va 1 (qS [x])∧W.ownsRow lo0 3 1 vb 1 [.int .i64 0]
theorem zcZ (w2:World) (x:Int × Int):∀ j u,(qS [x])[j]?=some u→(w2.alloc (.cells #[.int .i32 x.1,.int .i32 x.2] 94)).cell? ((⟨w2.heap.size,0,none⟩:Addr).add j)=some u:=by
 intro j u hj;rw [Xb];have b:=Blk.new w2 #[.int .i32 x.1,.int .i32 x.2] 94
 match j,hj with
 | 0,hj =>simp [qS] at hj;subst hj;exact b.cell 0
 | 1,hj =>simp [qS] at hj;subst hj;exact b.cell 1
 | j+2,hj =>simp [qS] at hj
theorem zjt {w wm w2 w3:World} {B lo0 X g1 cap1:Nat} {cx:Array Value} {tmp:Obj} (hB:Blk wm B #[.slice none 0 0,.slice none 0 0] 226) (hX:Blk wm X cx 94) (hw:Below w.heap.size w wm) (hb:Below wm.heap.size wm w2) (hg:(w2.alloc tmp).grownBy w3 none) (h0:lo0≤B) (hl:lo0≤w.heap.size) (hne:X≠B)
  (ho:w3.ownsRow lo0 3 1 (.slice (some ⟨g1,0,none⟩) 1 cap1) 1 [.int .i64 0]) :
  ∃ w4,w4=w3.setCell ⟨B,1,none⟩ (.slice (some ⟨g1,0,none⟩) 1 cap1)∧Blk w4 B #[.slice none 0 0,.slice (some ⟨g1,0,none⟩) 1 cap1] 226∧Blk w4 X cx 94∧w4.ownsRow lo0 3 1 (.slice (some ⟨g1,0,none⟩) 1 cap1) 1 [.int .i64 0]∧Below lo0 w w4∧(∀ X,X < w.heap.size→X≠B→w4.heap[X]?=w.heap[X]?):=by
 have hm:=zbg hB hX hb hg;refine ⟨_,rfl,by simpa using hm.1.set 1 (.slice (some ⟨g1,0,none⟩) 1 cap1),hm.2.other hne _, ?_, ?_,fun X hX hXB =>?_⟩
 ·refine ho.kept (zV w3 ⟨B,1,none⟩ _) (.inr ?_);intro e;simp [Value.ownBlock] at e;subst e;rcases ho.2 with ⟨e,_⟩ | ⟨g,cap,cur,e,_,hg',_⟩
  ·simp at e
  ·simp at e;obtain ⟨rfl,_⟩:=e;have:=(show w3.heap[g1]?=_ from hm.1).symm.trans hg';simp at this
 ·have s1:=hw.size;have s2:=hb.size;exact ((((hw.mono hl).trans (hb.mono (by omega))).alloc (by omega) tmp).grown hg (by simp;omega) (fun k e =>by cases e)).setCell (p:=⟨B,1,none⟩) h0 _
 ·have s1:=hw.size;have s2:=hb.size;rw [Below.heap_setCell w3 ⟨B,1,none⟩ _ X hXB,hg.block X (by simp;omega) (by simp),Below.heap_alloc w2 tmp X (by omega),hb.block X (by omega),hw.block X hX]
theorem ziX {w w4 w5:World} {B lo0 g1 cap1 g5 cap5:Nat} {x:Int × Int} {tmp:Obj} (hB:Blk w4 B #[.slice none 0 0,.slice (some ⟨g1,0,none⟩) 1 cap1] 226) (ho:w4.ownsRow lo0 3 1 (.slice (some ⟨g1,0,none⟩) 1 cap1) 1 [.int .i64 0]) (hL:Below lo0 w w4) (hl:lo0≤w.heap.size) (h0:lo0≤B)
  (hg:(w4.alloc tmp).drew.grownBy w5 none) (ho5:w5.ownsRow lo0 94 2 (.slice (some ⟨g5,0,none⟩) 1 cap5) 1 (qS [x])) (hF:∀ X,X < w.heap.size→X≠B→w4.heap[X]?=w.heap[X]?) :
  Laid (w5.setCell ⟨B,0,none⟩ (.slice (some ⟨g5,0,none⟩) 1 cap5)) B lo0 x∧Below lo0 w (w5.setCell ⟨B,0,none⟩ (.slice (some ⟨g5,0,none⟩) 1 cap5))∧(∀ X,X < w.heap.size→X≠B→(w5.setCell ⟨B,0,none⟩ (.slice (some ⟨g5,0,none⟩) 1 cap5)).heap[X]?=w.heap[X]?):=by
 have hg':(w4.alloc tmp).grownBy w5 none:=⟨hg.os,hg.tape,hg.output,hg.size,hg.block⟩;have hm:=(hB.alloc tmp).kept hg' (by simp);have Yn:∀ {E sz:Nat} {g cap n:Nat} {xs:List Value},226≠E→w5.ownsRow lo0 E sz (.slice (some ⟨g,0,none⟩) n cap) n xs→g≠B:=by
  intro E sz g cap n xs hE h e;subst e;rcases h.2 with ⟨e,_⟩ | ⟨g',cap',cur,e,_,hg',_⟩
  ·simp at e
  ·simp at e;obtain ⟨rfl,_⟩:=e;have:=(show w5.heap[g]?=_ from hm).symm.trans hg';simp at this;exact hE this.2
 have ho1:w5.ownsRow lo0 3 1 (.slice (some ⟨g1,0,none⟩) 1 cap1) 1 [.int .i64 0]:=(ho.kept (World.grownBy_alloc w4 tmp none) (by simp [Value.ownBlock])).kept hg' (by simp [Value.ownBlock]);have n1:=Yn (by decide) ho1;have n5:=Yn (by decide) ho5;refine ⟨⟨_,_,by simpa using hm.set 0 (.slice (some ⟨g5,0,none⟩) 1 cap5),ho5.kept (zV w5 ⟨B,0,none⟩ _) (.inr (by simpa [Value.ownBlock] using n5)),ho1.kept (zV w5 ⟨B,0,none⟩ _) (.inr (by simpa [Value.ownBlock] using n1))⟩, ?_,fun X hX hXB =>?_⟩
 ·have s1:=hL.size;exact ((hL.alloc (by omega) tmp).grown hg' (by simp;omega) (fun k e =>by cases e)).setCell (p:=⟨B,0,none⟩) h0 _
 ·have s1:=hL.size;rw [Below.heap_setCell w5 ⟨B,0,none⟩ _ X hXB,hg'.block X (by simp;omega) (by simp),Below.heap_alloc w4 tmp X (by omega),hF X hX hXB]
theorem zf2 (B lo0:Nat) (x:Int × Int) (w:World) (hB:Blk w B #[.slice none 0 0,.slice none 0 0] 226) (h0:lo0≤B) (hl:lo0≤w.heap.size) :
  Calls Tryz.prog 212 #[.pointer (some ⟨B,0,none⟩),zc4 x] w fun e w' =>(∃ r,e=.returned r)∧Laid w' B lo0 x∧Below lo0 w w'∧(∀ X,X < w.heap.size→X≠B→w'.heap[X]?=w.heap[X]?):=by
 obtain ⟨lo,hi⟩:=x;obtain ⟨iI,hi0,hi1,hi2,hi3⟩:=info_parts ziH;have HI:=kz (yB hi0 (yB hi1 (yB hi2 hi3)));obtain ⟨iP,hi0,hi1,hi2,hi3⟩:=info_parts zed;have HP:=kz (yB hi0 (yB hi1 (yB hi2 hi3)));clear hi0 hi1 hi2 hi3;have HX:=kz (Blk.new w #[.int .i32 lo,.int .i32 hi] 94);have HBm:=kz ((Below.refl w.heap.size w).alloc zD (.cells #[.int .i32 lo,.int .i32 hi] 94));have HB:=kz (hB.alloc (.cells #[.int .i32 lo,.int .i32 hi] 94));have c0:=(oz HB).cell 0;have c1:=(oz HB).cell 1;go_enter Tryz.func212,Tryz.ntmps212;go_wp2;generalize w.alloc _=wm at *;have HBd:Hz (Blk wm.drew B #[.slice none 0 0,.slice none 0 0] 226):=kz (oz HB);have HXd:Hz (Blk wm.drew w.heap.size #[.int .i32 lo,.int .i32 hi] 94):=kz (oz HX);have HS:=kz (Z2 B [] wm.drew ⟨⟨none,0,none,0,oz HBd,fun h =>by simp at h,fun h =>by simp at h⟩,zdM,by simp⟩);have HLm:Hz (lo0≤wm.drew.heap.size):=kz (Nat.le_trans hl (oz HBm).size);have HNE:Hz (w.heap.size≠B):=kz (fun e =>by have:=hB.lt;omega);have HBmd:Hz (Below w.heap.size w wm.drew):=kz (oz HBm).drew;have hmx2:Tryz.prog.follows .mixedOrders=true:=by kernel_rfl
 go_region_law (first
  | (go_simp;refine (oz HS).mono ?_;rintro e w2 ⟨rfl,hb⟩;have b2:=(oz HBd).below hb (oz HBd).lt;have d0:=b2.cell 0;have d1:=b2.cell 1;have d3:=(b2.alloc (.cells #[.int .i64 (total [])] 3)).cell 1)
  | (refine step_append_lies _ (by rfl) _ _ _ (by rfl) lo0 3 iI (.int .i64 0) 1 8 Tryz.underlying35 (oz HI).1 (oz HI).2.1 (oz HI).2.2.1 (oz HI).2.2.2 rfl (by omega) (.slice none 0 0) 0 [] (by rfl) (World.ownsRow_nil _ _ _ _) ⟨w2.heap.size,0,none⟩ 1 1 [.int .i64 (total [])] (by rfl) (by simp) (zdf w2 _) (by simp [Value.oneCell']) (by omega) (by unfold maxLen;omega) (by omega) (by have:=hb.size;have:=oz HLm;simp;omega) (w2.heap.size+1) (by simp) ?_;intro g1 cap1 w3 hown1 hgrow1 hat1 hlt1;have hm:=zbg (oz HBd) (oz HXd) hb hgrow1;have e0:=hm.1.cell 0;have e1:=hm.1.cell 1;have e2:=hm.1.frozen 1))
 all_goals
  obtain ⟨w4,h4,hb4,hx4,ho4,hB4,hF4⟩:=zjt (oz HBd) (oz HXd) (oz HBmd) hb hgrow1 h0 hl (oz HNE) hown1;rw [← h4];have HB4:=kz hb4;have HX4:=kz hx4;have HO4:=kz ho4;have HL4:=kz hB4;have HF4:=kz hF4;have p0:=hb4.cell 0;have p1:=(hb4.alloc (.cells #[.int .i32 lo,.int .i32 hi] 94)).cell 0;have x0:=hx4.cell 0;have x1:=hx4.cell 1;clear h4 hb4 hx4 ho4 hB4 hF4 hown1 hgrow1 hat1 hlt1 hm e0 e1 e2 b2 d0 d1 d3 hb HS HBd HXd HB HX c0 c1 HLm HBm;go_wp2
  go_region_law (first
   | (refine step_append_lies _ (by rfl) _ _ _ (by rfl) lo0 94 iP (.agg #[.int .i32 0,.int .i32 0]) 2 8 Tryz.underlying26 (oz HP).1 (oz HP).2.1 (oz HP).2.2.1 (oz HP).2.2.2 rfl (by omega) (.slice none 0 0) 0 [] (by rfl) (World.ownsRow_nil _ _ _ _) ⟨w4.heap.size,0,none⟩ 1 1 (qS [(lo,hi)]) (by rfl) (by simp [qS]) (zcZ w4 (lo,hi)) (Qq _) (by omega) (by unfold maxLen;omega) (by omega) (by have:=(oz HL4).size;simp;omega) (w4.heap.size+1) (by simp) ?_;intro g5 cap5 w5 hown5 hgrow5 hat5 hlt5;have hm5:=(show Blk (w4.alloc (.cells #[.int .i32 lo,.int .i32 hi] 94)).drew B _ 226 from (oz HB4).alloc (.cells #[.int .i32 lo,.int .i32 hi] 94)).kept hgrow5 (by simp [Value.ownBlock]);have y0:=hm5.cell 0;have y1:=hm5.frozen 0))
  all_goals
   have HE:=kz (ziX (x:=(lo,hi)) (oz HB4) (oz HO4) (oz HL4) hl h0 hgrow5 hown5 (oz HF4))
   go_end0
   exact ⟨⟨_,rfl⟩,oz HE⟩
end
end Go.Proofs.YthchopdfmchpkaaGreat
