/- Texts of this claim, one behind the other. -/
import Derived.Test.YthchopdfmchpkaaGreatTkU
import Derived.WideKeyEntry
namespace Go.Proofs.YthchopdfmchpkaaGreat
open Go.RowKit Go.Shelf Go.Maps
set_option linter.unusedVariables false
set_option maxRecDepth 100000
set_option maxHeartbeats 8000000
structure RgK (W0:World) (lo:Nat) (D:Nat→Value→World→Prop) (ob:Value→Option Nat) (m:Nat→Bool) (l:Array Bool) (U:Nat→Value) (w:World):Prop where
 bel:Below lo W0 w
 sz:lo≤w.heap.size
 val:∀ i,l.getD i false=true→D i (U i) w
 ap:∀ i j,m i=true→m j=true→i≠j→l.getD i false=true→l.getD j false=true→ob (U i)=none∨ob (U i)≠ob (U j)
theorem RgK.start {W0:World} {lo:Nat} {D:Nat→Value→World→Prop} {ob:Value→Option Nat} {m:Nat→Bool} (U:Nat→Value) (n:Nat) (h:lo≤W0.heap.size):RgK W0 lo D ob m (Array.replicate n false) U W0:=by
 have h0:∀ i,(Array.replicate n false).getD i false=false:=fun i =>by
  rcases Nat.lt_or_ge i n with h' | h' <;> simp [h']
 exact ⟨zl,h,fun i hi =>by (rw [h0] at hi;cases hi),fun i j _ _ _ hi =>by (rw [h0] at hi;cases hi)⟩
theorem RgK.put {W0:World} {lo:Nat} {D:Nat→Value→World→Prop} {ob:Value→Option Nat} {m:Nat→Bool} {l:Array Bool} {U:Nat→Value} {w w':World} (h:RgK W0 lo D ob m l U w) (i:Nat) (v:Value)
  (hi:l.getD i true=false) (hb:Below w.heap.size w w') (hst:∀ j u,D j u w→D j u w') (hD:D i v w')
  (hlt:∀ j u,m j=true→D j u w→∀ b,ob u=some b→b < w.heap.size) (hm:m i=true→∀ b,ob v=some b→w.heap.size≤b) :
  RgK W0 lo D ob m (l.setIfInBounds i true) (za U i v) w':=by
 have hcase:∀ j,(l.setIfInBounds i true).getD j false=true→j=i∨(j≠i∧l.getD j false=true):=fun j hj =>by
  by_cases hji:j=i
  ·exact .inl hji
  ·rw [getD_set_ne false (Ne.symm hji)] at hj;exact .inr ⟨hji,hj⟩
 refine ⟨h.bel.trans (hb.mono h.sz),Nat.le_trans h.sz hb.size,fun j hj =>?_,fun j k mj mk hjk hj hk =>?_⟩
 ·rcases hcase j hj with rfl | ⟨hji,h1⟩
  ·rw [yE];exact hD
  ·rw [yI _ _ hji];exact hst j _ (h.val j h1)
 ·rcases hcase j hj with rfl | ⟨hji,h1⟩
  ·rcases hcase k hk with rfl | ⟨hki,h2⟩
   ·exact absurd rfl hjk
   ·rw [yE,yI _ _ hki];cases hb:ob v with
    | none =>exact .inl rfl
    | some b =>
     refine .inr fun e =>?_
     have h3:=hm mj b hb;have h4:=hlt k _ mk (h.val k h2) b e.symm;omega
  ·rcases hcase k hk with rfl | ⟨hki,h2⟩
   ·rw [yE,yI _ _ hji];cases hb:ob (U j) with
    | none =>exact .inl rfl
    | some b =>
     refine .inr fun e =>?_
     have h3:=hm mk b e.symm;have h4:=hlt j _ mj (h.val j h1) b hb;omega
   ·rw [yI _ _ hji,yI _ _ hki];exact h.ap j k mj mk hjk h1 h2
def zjh:Value→Option Nat
 | .map (some M) =>some M
 | _ =>none
def SetV (w:World) (l:List (Int × Int)) (B:Nat):Prop := ∃ zs lo0,Made w B lo0 zs∧Spread zs∧zs.length≤l.length∧∀ r,zi zs r=zi l r
theorem SetV.below {w w':World} {l:List (Int × Int)} {B:Nat} (h:SetV w l B) (hb:Below w.heap.size w w'):SetV w' l B :=
 let ⟨zs,lo0,h1,h2⟩:=h; ⟨zs,lo0,h1.below hb,h2⟩
theorem Yy (a:Option Addr) (c:Nat) (l:List (Int × Int)) (hl:l.length≤1000000) (hR:yO l) (w:World) (hr:RowP w a l) :
  Calls Tryz.prog 86 #[.slice a l.length c] w fun e w' => ∃ (B:Nat),e=.returned (.pointer (some ⟨B,0,none⟩))∧SetV w' l B∧Below w.heap.size w w':=by
 have HC:=kz (zam a c l hl hR w hr);clear hr hR;go_enter Tryz.func86,Tryz.ntmps86;go_wp2_with fail
 refine (oz HC).mono ?_;rintro e w1 ⟨B,lo0,zs,rfl,h1,h2,h3,h4,h5,h6⟩;have HP:=kz (yB h2 (yB h3 (yB h4 (yB h5 h6))));clear h1 h2 h3 h4 h5 h6 HC;go_wp2_with fail
 go_ret;exact ⟨B,rfl,⟨zs,lo0,(oz HP).1,(oz HP).2.1,(oz HP).2.2.1,(oz HP).2.2.2.1⟩,(oz HP).2.2.2.2⟩
def NoneV (w:World) (M:Nat):Prop := ∀ kt R,MpAt w kt R M 0 (fun _ =>none)
theorem NoneV.below {w w':World} {M:Nat} (h:NoneV w M) (hb:Below w.heap.size w w'):NoneV w' M:=fun kt R =>(h kt R).below hb
theorem TabAt.below {w w':World} {lo:Nat} {T:TV} {v:Value} (h:TabAt w lo T v) (hb:Below w.heap.size w w'):TabAt w' lo T v:=by
 obtain ⟨v0,us,v1,v2,v3,v4,v5,v6,v7,e,hl,h1⟩:=h;exact ⟨v0,us,v1,v2,v3,v4,v5,v6,v7,e,hl,h1.kept (YV (row:=none) hb) (fun b e =>by cases e)⟩
theorem TabAt.lower {w:World} {lo lo':Nat} {T:TV} {v:Value} (h:TabAt w lo T v) (hl:lo'≤lo):TabAt w lo' T v:=by
 obtain ⟨v0,us,v1,v2,v3,v4,v5,v6,v7,e,h0,h1⟩:=h;exact ⟨v0,us,v1,v2,v3,v4,v5,v6,v7,e,h0,h1.lower hl⟩
structure BkC (w:World) (lo:Nat) (T:TV) (t0 t1 t2 t3 t4 t5 t6 t7:Value) (Bc Bd Ba M5 M6 M7 MF nF ML nL:Nat):Prop where
 tb:TabAt w lo T (.agg #[t0,t1,t2,t3,t4,t5,t6,t7])
 co:SetV w T.co Bc
 dr:SetV w T.dr Bd
 al:SetV w T.al Ba
 m5:NoneV w M5
 m6:NoneV w M6
 m7:NoneV w M7
 mF:FoAt w MF nF T.fo
 mL:FoAt w ML nL T.lk
 lows:lo≤M5∧lo≤M6∧lo≤M7∧lo≤MF∧lo≤ML
 n56:M5≠M6
 n57:M5≠M7
 n5F:M5≠MF
 n5L:M5≠ML
 n67:M6≠M7
 n6F:M6≠MF
 n6L:M6≠ML
 n7F:M7≠MF
 n7L:M7≠ML
 nFL:MF≠ML
theorem BkC.below {w w':World} {lo:Nat} {T:TV} {t0 t1 t2 t3 t4 t5 t6 t7:Value} {Bc Bd Ba M5 M6 M7 MF nF ML nL:Nat} (h:BkC w lo T t0 t1 t2 t3 t4 t5 t6 t7 Bc Bd Ba M5 M6 M7 MF nF ML nL) (hb:Below w.heap.size w w'):BkC w' lo T t0 t1 t2 t3 t4 t5 t6 t7 Bc Bd Ba M5 M6 M7 MF nF ML nL :=
 { h with tb:=h.tb.below hb,co:=h.co.below hb,dr:=h.dr.below hb,al:=h.al.below hb,m5:=h.m5.below hb,m6:=h.m6.below hb,m7:=h.m7.below hb,mF:=h.mF.below hb,mL:=h.mL.below hb }
def zgH (t0 t1 t2 t3 t4 t5 t6 t7 sc:Value) (Bc Bd Ba M5 M6 M7 MF ML:Nat):Array Value:=#[t0,t1,t2,t3,t4,t5,t6,t7,sc,.pointer (some ⟨Bc,0,none⟩),.pointer (some ⟨Bd,0,none⟩),.pointer (some ⟨Ba,0,none⟩),.map (some M5),.map (some M6),.map (some M7),.map (some MF),.map (some ML)]
structure BoF (w:World) (P:Nat) (T:TV) (a0 a1 a2 a3 a4 a5 a6 a7:Option Addr) (c0 c1 c2 c3 c4 c5 c6 c7:Nat) (us:List Value):Prop where
 bx:Blk w P #[.slice a0 T.sc.length c0,.slice a1 T.co.length c1,.slice a2 T.ma.length c2,.slice a3 T.pr.length c3,.slice a4 T.fo.length c4,.slice a5 T.lk.length c5,.slice a6 T.dr.length c6,.slice a7 T.al.length c7] 31
 ti:TabIn w T a0 a1 a2 a3 a4 a5 a6 a7 us
theorem BoF.below {w w':World} {P:Nat} {T:TV} {a0 a1 a2 a3 a4 a5 a6 a7:Option Addr} {c0 c1 c2 c3 c4 c5 c6 c7:Nat} {us:List Value} (h:BoF w P T a0 a1 a2 a3 a4 a5 a6 a7 c0 c1 c2 c3 c4 c5 c6 c7 us) (hb:Below w.heap.size w w'):BoF w' P T a0 a1 a2 a3 a4 a5 a6 a7 c0 c1 c2 c3 c4 c5 c6 c7 us :=
 ⟨h.bx.below hb h.bx.lt,h.ti.lower hb⟩
def boD (P lo:Nat) (T:TV) (a0 a1 a2 a3 a4 a5 a6 a7:Option Addr) (c0 c1 c2 c3 c4 c5 c6 c7:Nat):Nat→Value→World→Prop
 | 0,v,w =>v=.agg #[.slice a0 T.sc.length c0,.slice a1 T.co.length c1,.slice a2 T.ma.length c2,.slice a3 T.pr.length c3,.slice a4 T.fo.length c4,.slice a5 T.lk.length c5,.slice a6 T.dr.length c6,.slice a7 T.al.length c7]
 | 1,v,w =>TabAt w lo T v
 | 2,v,w =>v=.pointer (some ⟨P,1,none⟩)
 | 3,v,w =>v=.slice a1 T.co.length c1
 | 4,v,w => ∃ B,v=.pointer (some ⟨B,0,none⟩)∧SetV w T.co B
 | 5,v,w =>v=.pointer (some ⟨P,6,none⟩)
 | 6,v,w =>v=.slice a6 T.dr.length c6
 | 7,v,w => ∃ B,v=.pointer (some ⟨B,0,none⟩)∧SetV w T.dr B
 | 8,v,w =>v=.pointer (some ⟨P,7,none⟩)
 | 9,v,w =>v=.slice a7 T.al.length c7
 | 10,v,w => ∃ B,v=.pointer (some ⟨B,0,none⟩)∧SetV w T.al B
 | 11,v,w => ∃ M,v=.map (some M)∧lo≤M∧NoneV w M
 | 12,v,w => ∃ M,v=.map (some M)∧lo≤M∧NoneV w M
 | 13,v,w => ∃ M,v=.map (some M)∧lo≤M∧NoneV w M
 | 14,v,w =>v=.pointer (some ⟨P,4,none⟩)
 | 15,v,w =>v=.slice a4 T.fo.length c4
 | 16,v,w => ∃ M n,v=.map (some M)∧lo≤M∧FoAt w M n T.fo
 | 17,v,w =>v=.pointer (some ⟨P,5,none⟩)
 | 18,v,w =>v=.slice a5 T.lk.length c5
 | 19,v,w => ∃ M n,v=.map (some M)∧lo≤M∧FoAt w M n T.lk
 | 20,v,w => ∃ t0 t1 t2 t3 t4 t5 t6 t7 Bc Bd Ba M5 M6 M7 MF nF ML nL,v=.agg #[t0,t1,t2,t3,t4,t5,t6,t7,.slice none 0 0,.pointer (some ⟨Bc,0,none⟩),.pointer (some ⟨Bd,0,none⟩),.pointer (some ⟨Ba,0,none⟩),.map (some M5),.map (some M6),.map (some M7),.map (some MF),.map (some ML)]∧BkC w lo T t0 t1 t2 t3 t4 t5 t6 t7 Bc Bd Ba M5 M6 M7 MF nF ML nL
 | 21,v,w => ∃ B t0 t1 t2 t3 t4 t5 t6 t7 Bc Bd Ba M5 M6 M7 MF nF ML nL,v=.pointer (some ⟨B,0,none⟩)∧lo≤B∧Blk w B #[t0,t1,t2,t3,t4,t5,t6,t7,.slice none 0 0,.pointer (some ⟨Bc,0,none⟩),.pointer (some ⟨Bd,0,none⟩),.pointer (some ⟨Ba,0,none⟩),.map (some M5),.map (some M6),.map (some M7),.map (some MF),.map (some ML)] 156∧BkC w lo T t0 t1 t2 t3 t4 t5 t6 t7 Bc Bd Ba M5 M6 M7 MF nF ML nL
 | _,v,w =>True
def zkz (j:Nat):Bool:=j == 11 || j == 12 || j == 13 || j == 16 || j == 19
theorem jR {P lo:Nat} {T:TV} {a0 a1 a2 a3 a4 a5 a6 a7:Option Addr} {c0 c1 c2 c3 c4 c5 c6 c7:Nat} {w w':World} (hb:Below w.heap.size w w'):∀ (j:Nat) (v:Value),boD P lo T a0 a1 a2 a3 a4 a5 a6 a7 c0 c1 c2 c3 c4 c5 c6 c7 j v w→boD P lo T a0 a1 a2 a3 a4 a5 a6 a7 c0 c1 c2 c3 c4 c5 c6 c7 j v w'
 | 0,v,h =>h
 | 1,v,h =>h.below hb
 | 2,v,h =>h
 | 3,v,h =>h
 | 4,v,h =>let ⟨B,e,h1⟩:=h; ⟨B,e,h1.below hb⟩
 | 5,v,h =>h
 | 6,v,h =>h
 | 7,v,h =>let ⟨B,e,h1⟩:=h; ⟨B,e,h1.below hb⟩
 | 8,v,h =>h
 | 9,v,h =>h
 | 10,v,h =>let ⟨B,e,h1⟩:=h; ⟨B,e,h1.below hb⟩
 | 11,v,h =>let ⟨M,e,h0,h1⟩:=h; ⟨M,e,h0,h1.below hb⟩
 | 12,v,h =>let ⟨M,e,h0,h1⟩:=h; ⟨M,e,h0,h1.below hb⟩
 | 13,v,h =>let ⟨M,e,h0,h1⟩:=h; ⟨M,e,h0,h1.below hb⟩
 | 14,v,h =>h
 | 15,v,h =>h
 | 16,v,h =>let ⟨M,n,e,h0,h1⟩:=h; ⟨M,n,e,h0,h1.below hb⟩
 | 17,v,h =>h
 | 18,v,h =>h
 | 19,v,h =>let ⟨M,n,e,h0,h1⟩:=h; ⟨M,n,e,h0,h1.below hb⟩
 | 20,v,h =>let ⟨t0,t1,t2,t3,t4,t5,t6,t7,Bc,Bd,Ba,M5,M6,M7,MF,nF,ML,nL,e,h1⟩:=h; ⟨t0,t1,t2,t3,t4,t5,t6,t7,Bc,Bd,Ba,M5,M6,M7,MF,nF,ML,nL,e,h1.below hb⟩
 | 21,v,h =>let ⟨B,t0,t1,t2,t3,t4,t5,t6,t7,Bc,Bd,Ba,M5,M6,M7,MF,nF,ML,nL,e,h0,h2,h1⟩:=h; ⟨B,t0,t1,t2,t3,t4,t5,t6,t7,Bc,Bd,Ba,M5,M6,M7,MF,nF,ML,nL,e,h0,h2.below hb h2.lt,h1.below hb⟩
 | _+22,v,h =>h
theorem jS {P lo:Nat} {T:TV} {a0 a1 a2 a3 a4 a5 a6 a7:Option Addr} {c0 c1 c2 c3 c4 c5 c6 c7:Nat} {w:World}:∀ (j:Nat) (v:Value) (hm:zkz j=true) (h:boD P lo T a0 a1 a2 a3 a4 a5 a6 a7 c0 c1 c2 c3 c4 c5 c6 c7 j v w), ∀ b,zjh v=some b→b < w.heap.size
 | 0,v,hm,h =>absurd hm (by decide)
 | 1,v,hm,h =>absurd hm (by decide)
 | 2,v,hm,h =>absurd hm (by decide)
 | 3,v,hm,h =>absurd hm (by decide)
 | 4,v,hm,h =>absurd hm (by decide)
 | 5,v,hm,h =>absurd hm (by decide)
 | 6,v,hm,h =>absurd hm (by decide)
 | 7,v,hm,h =>absurd hm (by decide)
 | 8,v,hm,h =>absurd hm (by decide)
 | 9,v,hm,h =>absurd hm (by decide)
 | 10,v,hm,h =>absurd hm (by decide)
 | 11,v,hm,h =>fun b hq =>by
  obtain ⟨M,rfl,_,h1⟩:=h;obtain rfl:M=b:=Zo hq;exact (h1 0 (fun _ =>none)).lt
 | 12,v,hm,h =>fun b hq =>by
  obtain ⟨M,rfl,_,h1⟩:=h;obtain rfl:M=b:=Zo hq;exact (h1 0 (fun _ =>none)).lt
 | 13,v,hm,h =>fun b hq =>by
  obtain ⟨M,rfl,_,h1⟩:=h;obtain rfl:M=b:=Zo hq;exact (h1 0 (fun _ =>none)).lt
 | 14,v,hm,h =>absurd hm (by decide)
 | 15,v,hm,h =>absurd hm (by decide)
 | 16,v,hm,h =>fun b hq =>by
  obtain ⟨M,n,rfl,_,h1⟩:=h;obtain rfl:M=b:=Zo hq;obtain ⟨G,h2,_⟩:=h1.mp;exact h2.lt
 | 17,v,hm,h =>absurd hm (by decide)
 | 18,v,hm,h =>absurd hm (by decide)
 | 19,v,hm,h =>fun b hq =>by
  obtain ⟨M,n,rfl,_,h1⟩:=h;obtain rfl:M=b:=Zo hq;obtain ⟨G,h2,_⟩:=h1.mp;exact h2.lt
 | 20,v,hm,h =>absurd hm (by decide)
 | 21,v,hm,h =>absurd hm (by decide)
 | _+22,v,hm,h =>absurd hm (by simp [zkz])
theorem Qt {u v:Value} {M N:Nat} (h:zjh u=none∨zjh u≠zjh v) (hu:u=.map (some M)) (hv:v=.map (some N)):M≠N:=by
 subst hu hv;rintro rfl;rcases h with h | h
 ·cases h
 ·exact h rfl
structure zk0 (T:TV):Prop where
 ok:Jj T
 z0:∀ x ∈ T.sc,x.1.size≤1048576
 z4:∀ x ∈ T.fo,x.2.size≤1048576∧R32 x.1
 z5:∀ x ∈ T.lk,x.2.size≤1048576∧R32 x.1
 z2:∀ x ∈ T.ma,R32 x.1
 z3:∀ x ∈ T.pr,R32 x.1∧R32 x.2.1∧R32 x.2.2
 r1:yO T.co
 r6:yO T.dr
 r7:yO T.al
 rs:∀ x ∈ T.sc,yO x.2
def XOk (X:Nat→Prop) (w:World):Prop := ∀ g,X g→(∃ cur t,Blk w g cur t∧(t=156∨t=147)∧∀ (j:Nat) (k:IntKind) (y:Int),cur[j]?≠some (.int k y))∨∃ es c,w.heap[g]?=some (.map es c)
theorem XOk.noInt {X:Nat→Prop} {w:World} (h:XOk X w) {g j:Nat} {k:IntKind} {y:Int} (hc:w.cell? ⟨g,j,none⟩=some (.int k y)):¬ X g:=fun hx =>by
 rcases h g hx with ⟨cur,t,hb,_,hn⟩ | ⟨es,c,hm⟩
 ·rw [hb.cell j] at hc;exact hn j k y hc
 ·unfold World.cell? at hc;rw [hm] at hc;simp at hc
def XTy (X:Nat→Prop) (w:World):Prop := ∀ g,X g→(∃ cur t,Blk w g cur t∧(t=156∨t=147))∨∃ es c,w.heap[g]?=some (.map es c)
theorem XTy.blk {X:Nat→Prop} {w:World} (h:XTy X w) {g:Nat} {cur:Array Value} {t:TypeId} (hb:Blk w g cur t) (h1:t≠156) (h2:t≠147):¬ X g:=fun hx =>by
 unfold Blk at hb;rcases h g hx with ⟨cur',t',hb',ht⟩ | ⟨es,c,hm⟩
 ·unfold Blk at hb';rw [hb] at hb';injection hb' with e;injection e with e1 e2;subst e2;rcases ht with ht | ht
  ·exact h1 ht
  ·exact h2 ht
 ·rw [hb] at hm;injection hm with e;cases e
theorem XTy.row {X:Nat→Prop} {w w':World} (hX:XTy X w) (k:KeptX X w w') {lo E sz n:Nat} {v:Value} {xs:List Value} (h:w.ownsRow lo E sz v n xs) (h1:E≠156) (h2:E≠147):w'.ownsRow lo E sz v n xs:=by
 rcases h.2 with ⟨e,h0⟩ | ⟨g,cap,cur,e,hb,hg,r⟩
 ·exact ⟨h.1,.inl ⟨e,h0⟩⟩
 ·exact ⟨h.1,.inr ⟨g,cap,cur,e,hb,k.blk hg (hX.blk hg h1 h2),r⟩⟩
theorem XTy.lst {X:Nat→Prop} {w w':World} (hX:XTy X w) (k:KeptX X w w') {lo:Nat} {vs:List Value} {ls:List Ln} (h:Lst w lo vs ls) (hT:∀ l ∈ ls,l.E≠156∧l.E≠147):Lst w' lo vs ls :=
 ⟨h.ll,fun i v l hv hl =>hX.row k (h.own i v l hv hl) (hT l (YH hl)).1 (hT l (YH hl)).2,h.apart⟩
theorem zdG (T:TV) (us:List Value) (l:Ln) (hl:l ∈ Qv T us):l.E≠156∧l.E≠147:=by
 have key:l.E=96∨l.E=94∨l.E=98∨l.E=100∨l.E=102:=by
  unfold Qv at hl;simp only [List.mem_append,List.mem_cons,List.mem_map,List.not_mem_nil,or_false] at hl;rcases hl with ((((((((h | ⟨_,_,h⟩) | h) | h) | h) | h) | h) | h) | h)
  ·rw [h];exact .inl rfl
  ·rw [← h];exact .inr (.inl rfl)
  ·rw [h];exact .inr (.inl rfl)
  ·rw [h];exact .inr (.inr (.inl rfl))
  ·rw [h];exact .inr (.inr (.inr (.inl rfl)))
  ·rw [h];exact .inr (.inr (.inr (.inr rfl)))
  ·rw [h];exact .inr (.inr (.inr (.inr rfl)))
  ·rw [h];exact .inr (.inl rfl)
  ·rw [h];exact .inr (.inl rfl)
 generalize l.E=x at key;rcases key with rfl | rfl | rfl | rfl | rfl;all_goals exact ⟨by decide,by decide⟩
theorem XTy.tab {X:Nat→Prop} {w w':World} (hX:XTy X w) (k:KeptX X w w') {lo:Nat} {T:TV} {v:Value} (h:TabAt w lo T v):TabAt w' lo T v:=by
 obtain ⟨v0,us,v1,v2,v3,v4,v5,v6,v7,e,hl,h1⟩:=h;exact ⟨v0,us,v1,v2,v3,v4,v5,v6,v7,e,hl,hX.lst k h1 (zdG T us)⟩
theorem XTy.made {X:Nat→Prop} {w w':World} (hX:XTy X w) (k:KeptX X w w') {B lo0:Nat} {zs:List (Int × Int)} (h:Made w B lo0 zs):Made w' B lo0 zs:=by
 obtain ⟨va,vb,h1,h2,h3⟩:=h.form;exact ⟨⟨va,vb,k.blk h1 (hX.blk h1 (by decide) (by decide)),hX.row k h2 (by decide) (by decide),hX.row k h3 (by decide) (by decide)⟩,h.lo⟩
theorem XTy.setV {X:Nat→Prop} {w w':World} (hX:XTy X w) (k:KeptX X w w') {B:Nat} {l:List (Int × Int)} (h:SetV w l B):SetV w' l B :=
 let ⟨zs,lo0,h1,h2⟩:=h; ⟨zs,lo0,hX.made k h1,h2⟩
theorem KeptX.mp {X:Nat→Prop} {w w':World} (k:KeptX X w w') {kt:TypeId} {R:Value→Option (DataW Unit × List MemPlace)} {M n:Nat} {G:Lit→Option (DataW Unit)} (h:MpAt w kt R M n G) (hM:¬ X M):MpAt w' kt R M n G:=by
 have hlt:=h.lt;obtain ⟨D,⟨es,clock,hb,r⟩,h2⟩:=h;exact ⟨D,⟨es,clock,(k.block M hlt hM).trans hb,r⟩,h2⟩
theorem XOk.rn {X:Nat→Prop} {w w':World} (hX:XOk X w) (k:KeptX X w w') {g:Nat} {l:List Int} (h:RnG w g l):RnG w' g l :=
 ⟨zaY h.1 k.size,fun j y hy =>(k.cell (p:=⟨g,j,none⟩) h.1 (hX.noInt (h.2 j y hy))).trans (h.2 j y hy)⟩
theorem XOk.fo {X:Nat→Prop} {w w':World} (hX:XOk X w) (k:KeptX X w w') {M n:Nat} {zs:List (Int × ByteArray)} (h:FoAt w M n zs) (hM:¬ X M):FoAt w' M n zs:=by
 obtain ⟨G,h1,h2⟩:=h.mp;refine ⟨G,k.mp h1 hM,fun r hr =>?_⟩;rcases h2 r hr with h3 | ⟨x,hx,e,g,c,h4,h5,h6⟩
 ·exact .inl h3
 ·exact .inr ⟨x,hx,e,g,c,h4,h5,hX.rn k h6⟩
set_option maxRecDepth 100000
set_option maxHeartbeats 8000000
def zaD (b:Nat):Value := .pointer (some ⟨b,0,none⟩)
structure ScSt (w1 wr:World) (B:Nat) (T:TV) (t0 t1 t2 t3 t4 t5 t6 t7:Value) (Bc Bd Ba M5 M6 M7 MF ML k:Nat) (sv:Value) (bs:List Nat):Prop where
 bx:Blk wr B (zgH t0 t1 t2 t3 t4 t5 t6 t7 sv Bc Bd Ba M5 M6 M7 MF ML) 156
 len:bs.length=k
 row:wr.ownsRow w1.heap.size 147 1 sv k (bs.map zaD)
 sets:∀ (j:Nat) (s:ByteArray × List (Int × Int)) (b:Nat),T.sc[j]?=some s→bs[j]?=some b→SetV wr s.2 b
 kp:KeptX (fun g =>g=B) w1 wr
structure RgX (W0:World) (X:Nat→Prop) (D:Nat→Value→World→Prop) (l:Array Bool) (U:Nat→Value) (w:World):Prop where
 kp:KeptX X W0 w
 val:∀ i,l.getD i false=true→D i (U i) w
theorem RgX.start {W0:World} {X:Nat→Prop} {D:Nat→Value→World→Prop} (U:Nat→Value) (n:Nat):RgX W0 X D (Array.replicate n false) U W0:=by
 have h0:∀ i,(Array.replicate n false).getD i false=false:=fun i =>by
  rcases Nat.lt_or_ge i n with h' | h' <;> simp [h']
 exact ⟨KeptX.refl _ _,fun i hi =>by (rw [h0] at hi;cases hi)⟩
theorem RgX.put {W0:World} {X:Nat→Prop} {D:Nat→Value→World→Prop} {l:Array Bool} {U:Nat→Value} {w w':World} (h:RgX W0 X D l U w) (i:Nat) (v:Value) (hb:KeptX X w w') (hst:∀ j,l.getD j false=true→j≠i→D j (U j) w→D j (U j) w') (hD:D i v w') :
  RgX W0 X D (l.setIfInBounds i true) (za U i v) w':=by
 refine ⟨h.kp.trans hb,fun j hj =>?_⟩;by_cases hji:j=i
 ·subst hji;rw [yE];exact hD
 ·rw [getD_set_ne false (Ne.symm hji)] at hj;rw [yI _ _ hji];exact hst j hj hji (h.val j hj)
theorem RgX.same {W0:World} {X:Nat→Prop} {D:Nat→Value→World→Prop} {l:Array Bool} {U:Nat→Value} {w:World} (h:RgX W0 X D l U w) (i:Nat) (v:Value) (hD:D i v w):RgX W0 X D (l.setIfInBounds i true) (za U i v) w :=
 h.put i v (KeptX.refl _ _) (fun _ _ _ q =>q) hD
theorem zcH {w w':World} {v:Value} (hg:w.grownBy w' v.ownBlock):KeptX (fun g =>v.ownBlock=some g) w w':=⟨hg.os,hg.tape,hg.output,hg.size,fun k hk hx =>hg.block k hk (fun e =>hx e.symm)⟩
theorem Yu (w:World) (B j:Nat) (v:Value):KeptX (fun g =>g=B) w (w.setCell ⟨B,j,none⟩ v):=by
 have hg:=yA w B j v;exact ⟨hg.os,hg.tape,hg.output,hg.size,fun k hk hx =>hg.block k hk (fun e =>hx (Zo e))⟩
theorem zbP {w:World} {lo n:Nat} {v:Value} {xs:List Value} (h:w.ownsRow lo 147 1 v n xs):XTy (fun g =>v.ownBlock=some g) w:=fun g hx =>by
 rcases h.2 with ⟨e,_⟩ | ⟨g',cap,cur,e,hb,hg,r⟩
 ·subst e;cases hx
 ·subst e;obtain rfl:g'=g:=Zo hx;exact .inl ⟨cur,_,hg,.inr rfl⟩
theorem ScSt.next {w1 wr wz w:World} {B:Nat} {T:TV} {t0 t1 t2 t3 t4 t5 t6 t7:Value} {Bc Bd Ba M5 M6 M7 MF ML k:Nat} {sv:Value} {bs:List Nat} (h:ScSt w1 wr B T t0 t1 t2 t3 t4 t5 t6 t7 Bc Bd Ba M5 M6 M7 MF ML k sv bs) (hB:B < w1.heap.size) (hb:Below wr.heap.size wr wz) (hk:KeptX (fun g =>sv.ownBlock=some g) wz w) {s:ByteArray × List (Int × Int)} (hs:T.sc[k]?=some s) {Bn g cap:Nat} (h1:SetV w s.2 Bn) (h2:w.ownsRow w1.heap.size 147 1 (.slice (some ⟨g,0,none⟩) (k+1) cap) (k+1) (bs.map zaD++[zaD Bn])) :
  ScSt w1 (w.setCell ⟨B,8,none⟩ (.slice (some ⟨g,0,none⟩) (k+1) cap)) B T t0 t1 t2 t3 t4 t5 t6 t7 Bc Bd Ba M5 M6 M7 MF ML (k+1) (.slice (some ⟨g,0,none⟩) (k+1) cap) (bs++[Bn]):=by
 have hrow:=zu h.row hb;have hlow:∀ b,sv.ownBlock=some b→w1.heap.size≤b:=fun b e =>jO hrow b e
 have bz:=h.bx.below hb h.bx.lt;have bw:Blk w B _ _:=hk.blk bz (fun e =>by have:=hlow B e;omega);have hxB:XTy (fun g =>g=B) w:=fun g e =>by
  subst e;exact .inl ⟨_,_,bw,.inl rfl⟩
 have hks:=Yu w B 8 (.slice (some ⟨g,0,none⟩) (k+1) cap);refine ⟨bw.set 8 _,by rw [List.length_append,List.length_singleton,h.len], ?_,fun j s' b hj hbj =>?_, ?_⟩
 ·rw [List.map_append,List.map_singleton];exact XN h2 (yA w B 8 _) (.inr (fun e =>by have:=jO h2 B e;omega))
 ·by_cases e:j < bs.length
  ·rw [List.getElem?_append_left e] at hbj;exact hxB.setV hks ((zbP hrow).setV hk ((h.sets j s' b hj hbj).below hb))
  ·rw [List.getElem?_append_right (by omega)] at hbj;have h0:=(Ze.1 hbj).1;rw [List.length_singleton] at h0;obtain rfl:j=k:=by have:=h.len;omega
   rw [hs] at hj;obtain rfl:=Zo hj;have e1:j - bs.length=0:=by have:=h.len;omega
   rw [e1] at hbj;obtain rfl:=Zo hbj;exact hxB.setV hks h1
 ·have hsz:w1.heap.size≤wr.heap.size:=h.kp.size;refine KeptX.trans ⟨(hk.os.trans hb.os).trans h.kp.os,(hk.tape.trans hb.tape).trans h.kp.tape,(hk.output.trans hb.output).trans h.kp.output,Nat.le_trans h.kp.size (Nat.le_trans hb.size hk.size),fun x hx hn =>?_⟩ hks;exact (hk.block x (zaY hx (Nat.le_trans hsz hb.size)) (fun e =>by have:=hlow x e;omega)).trans ((hb.block x (zaY hx hsz)).trans (h.kp.block x hx hn))
def scD (B P:Nat) (sv:Value) (k lo1 lo2:Nat) (bs:List Nat) (s2:List (Int × Int)) (b:Option Addr) (d:Nat):Nat→Value→World→Prop
 | 0,v,w =>v=.pointer (some ⟨B,0,none⟩)
 | 1,v,w =>v=.pointer (some ⟨B,0,none⟩)
 | 2,v,w =>v=.pointer (some ⟨B,0,none⟩)
 | 3,v,w =>v=.pointer (some ⟨B,8,none⟩)
 | 4,v,w =>v=sv
 | 5,v,w =>v=.pointer (some ⟨P,1,none⟩)
 | 6,v,w =>v=.slice b s2.length d
 | 7,v,w => ∃ Bn,v=.pointer (some ⟨Bn,0,none⟩)∧SetV w s2 Bn
 | 8,v,w => ∃ Bn q,v=.slice (some ⟨q,0,none⟩) 1 1∧lo2≤q∧SetV w s2 Bn∧Blk w q #[.pointer (some ⟨Bn,0,none⟩)] 147
 | 9,v,w => ∃ Bn g cap,v=.slice (some ⟨g,0,none⟩) (k+1) cap∧SetV w s2 Bn∧w.ownsRow lo1 147 1 (.slice (some ⟨g,0,none⟩) (k+1) cap) (k+1) (bs.map zaD++[zaD Bn])
 | 10,v,w =>v=.pointer (some ⟨B,0,none⟩)
 | 11,v,w =>v=.pointer (some ⟨B,8,none⟩)
 | _,v,w =>True
theorem zil {B P:Nat} {sv:Value} {k lo1 lo2:Nat} {bs:List Nat} {s2:List (Int × Int)} {b:Option Addr} {d:Nat} {w w':World} (hb:Below w.heap.size w w'):∀ (j:Nat) (v:Value),scD B P sv k lo1 lo2 bs s2 b d j v w→scD B P sv k lo1 lo2 bs s2 b d j v w'
 | 0,v,h =>h
 | 1,v,h =>h
 | 2,v,h =>h
 | 3,v,h =>h
 | 4,v,h =>h
 | 5,v,h =>h
 | 6,v,h =>h
 | 7,v,h =>let ⟨Bn,e,h1⟩:=h; ⟨Bn,e,h1.below hb⟩
 | 8,v,h =>let ⟨Bn,q,e,h0,h1,h2⟩:=h; ⟨Bn,q,e,h0,h1.below hb,h2.below hb h2.lt⟩
 | 9,v,h =>let ⟨Bn,g,cap,e,h1,h2⟩:=h; ⟨Bn,g,cap,e,h1.below hb,zu h2 hb⟩
 | 10,v,h =>h
 | 11,v,h =>h
 | _+12,v,h =>h
theorem zi2 {B P:Nat} {sv:Value} {k lo1 lo2:Nat} {bs:List Nat} {s2:List (Int × Int)} {b:Option Addr} {d:Nat} {X:Nat→Prop} {w w':World} (hX:XTy X w) (hk:KeptX X w w') (hlt:∀ g,X g→g < lo2):∀ (j:Nat) (v:Value),j≠9→scD B P sv k lo1 lo2 bs s2 b d j v w→scD B P sv k lo1 lo2 bs s2 b d j v w'
 | 0,v,_,h =>h
 | 1,v,_,h =>h
 | 2,v,_,h =>h
 | 3,v,_,h =>h
 | 4,v,_,h =>h
 | 5,v,_,h =>h
 | 6,v,_,h =>h
 | 7,v,_,h =>let ⟨Bn,e,h1⟩:=h; ⟨Bn,e,hX.setV hk h1⟩
 | 8,v,_,h =>let ⟨Bn,q,e,h0,h1,h2⟩:=h; ⟨Bn,q,e,h0,hX.setV hk h1,hk.blk h2 (fun x =>by have:=hlt q x;omega)⟩
 | 9,v,hn,h =>absurd rfl hn
 | 10,v,_,h =>h
 | 11,v,_,h =>h
 | _+12,v,_,h =>h
theorem zeT (t0 t1 t2 t3 t4 t5 t6 t7 sv:Value) (Bc Bd Ba M5 M6 M7 MF ML:Nat):(zgH t0 t1 t2 t3 t4 t5 t6 t7 sv Bc Bd Ba M5 M6 M7 MF ML)[8]?=some sv:=rfl
theorem KD {l:Array Bool} (h:9 < l.size):(l.setIfInBounds 9 true).getD 9 false=true:=by simp [h]
theorem zhs {w:World} {ops:Array Oper} {o:Oper} {a:Act} {K:Act→World→Prop} {Q:Exit→Act→World→Prop} {E:Prop} (hgd:o.guard=none) (s x:Operand)
  (ho:o.op=.call { callee := .builtin .append,args:=#[s,x],argTypes:=#[154,154] }) (base:Nat) (v:Value) (k:Nat) (bs:List Nat) (hs:a.eval s=v) (hown:w.ownsRow base 147 1 v k (bs.map zaD)) (q Bn:Nat) (hx:a.eval x=.slice (some ⟨q,0,none⟩) 1 1) (hb:Blk w q #[.pointer (some ⟨Bn,0,none⟩)] 147) (hk:k≤1000000) (hbase:base≤w.heap.size)
  (h:∀ g cap w',w'.ownsRow base 147 1 (.slice (some ⟨g,0,none⟩) (k+1) cap) (k+1) (bs.map zaD++[zaD Bn])→w.grownBy w' v.ownBlock→K (a.put o.dst (.slice (some ⟨g,0,none⟩) (k+1) cap)) w') :
  if Region.wanted o (yielded ops a.tmps)=true then Oper.wp Tryz.prog o a w K Q else E:=by
 obtain ⟨i,hi⟩:∃ i,Tryz.prog.info? 147=some i∧i.zero=some (.pointer none)∧i.size=1∧i.bytes=8:=⟨_,rfl,by kernel_rfl,by kernel_rfl,by kernel_rfl⟩;refine step_append_lies _ hgd s x 154 ho base 147 i (.pointer none) 1 8 Tryz.underlying154 hi.1 hi.2.1 hi.2.2.1 hi.2.2.2 rfl (by omega) v k (bs.map zaD) hs hown ⟨q,0,none⟩ 1 1 [zaD Bn] hx rfl (fun j u hu =>?_) (fun u hu =>by (obtain rfl:u=zaD Bn:=by simpa using hu);rfl) (by omega) (by unfold maxLen;omega) (by omega) hbase w.heap.size rfl ?_
 ·have h0:=(Ze.1 hu).1;obtain rfl:j=0:=by simpa using h0
  rw [Xb,Nat.zero_add,hb.cell 0, ← hu];rfl
 ·intro g cap w' h1 h2 _ _;exact h g cap w' h1 h2
set_option maxRecDepth 100000
set_option maxHeartbeats 8000000
noncomputable def reg10:Code:=match Tryz.f59.body with
 | some (.seq _ (.seq _ (.seq _ (.seq (.seq _ (.block _ (.loop (.seq _ (.seq _ (.seq (.block _ (.seq _ r)) _)))))) _)))) =>r
 | _ =>.skip
def ClG (zs:List (Int × Int)) (G:Lit→Option (DataW Unit)):Prop := ∀ r,R32 r→((∀ x ∈ zs,x.1≠r)∧G (.int .i32 r)=none)∨∃ x ∈ zs,x.1=r∧G (.int .i32 r)=some (.lit (.int .i64 x.2))
theorem ClG.put {zs:List (Int × Int)} {G:Lit→Option (DataW Unit)} {x:Int × Int} (h:ClG zs G):ClG (zs++[x]) (putG G (.int .i32 x.1) (.lit (.int .i64 x.2))):=fun r h32 =>by
 unfold putG;by_cases e:x.1=r
 ·subst e;exact .inr ⟨x,by simp,rfl,if_pos rfl⟩
 ·rw [if_neg (fun q =>e (by injection q with _ q;exact q.symm))];rcases h r h32 with ⟨h1,h2⟩ | ⟨y,hy,e2,h2⟩
  ·exact .inl ⟨fun y hy =>by rcases List.mem_append.1 hy with q | q;exact h1 y q;(obtain rfl:y=x:=by simpa using q);exact e,h2⟩
  ·exact .inr ⟨y,List.mem_append.2 (.inl hy),e2,h2⟩
theorem XB {w:World} {kt:TypeId} {R:Value→Option (DataW Unit × List MemPlace)} {M n B:Nat} {G:Lit→Option (DataW Unit)} {cs:Array Value} {t:TypeId} (h:MpAt w kt R M n G) (hb:Blk w B cs t):¬ M=B:=by
 rintro rfl;obtain ⟨D,⟨es,clock,h1,_⟩,_⟩:=h;unfold Blk at hb;rw [hb] at h1;injection h1 with e;cases e
structure ClAt (w:World) (M n:Nat) (zs:List (Int × Int)):Prop where
 mp:∃ G,MpAt w 21 (plainElem Tryz.prog 3) M n G∧ClG zs G
theorem ClAt.below {w w':World} {M n:Nat} {zs:List (Int × Int)} (h:ClAt w M n zs) (hb:Below w.heap.size w w'):ClAt w' M n zs:=by
 obtain ⟨G,h1,h2⟩:=h.mp;exact ⟨G,h1.below hb,h2⟩
def maD (B P M:Nat) (m1 m2:Int):Nat→Value→World→Prop
 | 0,v,w =>v=.pointer (some ⟨B,0,none⟩)
 | 1,v,w =>v=.pointer (some ⟨B,0,none⟩)
 | 2,v,w =>v=.pointer (some ⟨B,12,none⟩)
 | 3,v,w =>v=.map (some M)
 | 4,v,w =>v=.pointer (some ⟨P,0,none⟩)
 | 5,v,w =>v=.int .i32 m1
 | 6,v,w =>v=.pointer (some ⟨P,1,none⟩)
 | 7,v,w =>v=.int .i64 m2
 | _,v,w =>True
theorem zk1 {r:Int} (h1 : -9223372036854775808≤r) (h2:r≤9223372036854775807):(Lit.int .i64 r).wf=true:=by
 simp [Lit.wf,IntKind.min,IntKind.max,IntKind.signed,IntKind.bits];omega
theorem zfN {wr wb:World} {B M k:Nat} {m1 m2:Int} {zs:List (Int × Int)} {z0 z1 z2 z4 z5 z6 z8 z9 z10 z11 z12 z13 z14 z15 z16 z17 z18 z19 z20 z21 z22 z23 z24 z25 z26 z27 z28 z29 z30 z31 z32 z33 z34 z35 z36 z37 z38 z39 z40 z41 z42 z43 z44 z45 z46 z47 z48 z49 z50 z51 z52 z53 z54 z55 z56 z57 z58 z59 z60 z61 z62 z63 z64 z65 z66 z67 z68 z69 z70 z71 z72 z73 z74 z75 z76 z77 z78 z79 z80 z81 z82 z83 z84 z85 z86 z87 z88 z89 z90 z91 z92 z93 z94 z95 z96 z97 z98 z99 z100:Value} {Q:Exit→Act→World→Prop} (hmx:Tryz.prog.follows .mixedOrders=true)
  (HF:Hz (∀ w2,KeptX (fun _ =>False) wb.drew w2→Blk w2 wr.heap.size #[.int .i32 m1,.int .i64 m2] 98∧w2.cell? ⟨B,12,none⟩=some (.map (some M))∧ClAt w2 M k zs))
  (HX:Hz (R32 m1∧-9223372036854775808≤m2∧m2≤9223372036854775807∧k≤1000000))
  (hQ:∀ (U:Nat→Value) (wn:World),Hz (ClAt wn M (k+1) (zs++[(m1,m2)])∧KeptX (fun g =>g=M) wb.drew wn)→Q .normal { tmps:=#[z0,z1,z2,.pointer (some ⟨B,0,none⟩),z4,z5,z6,.pointer (some ⟨wr.heap.size,0,none⟩),z8,z9,z10,z11,z12,z13,z14,z15,z16,z17,z18,z19,z20,z21,z22,z23,z24,z25,z26,z27,z28,z29,z30,z31,z32,z33,z34,z35,z36,z37,z38,z39,z40,z41,z42,z43,z44,z45,z46,z47,z48,z49,z50,z51,z52,z53,z54,z55,z56,z57,z58,z59,U 0,U 1,U 2,U 3,U 4,U 5,U 6,U 7,z68,z69,z70,z71,z72,z73,z74,z75,z76,z77,z78,z79,z80,z81,z82,z83,z84,z85,z86,z87,z88,z89,z90,z91,z92,z93,z94,z95,z96,z97,z98,z99,z100],defers := [] } wn) :
  Code.wp Tryz.prog reg10 Q { tmps:=#[z0,z1,z2,.pointer (some ⟨B,0,none⟩),z4,z5,z6,.pointer (some ⟨wr.heap.size,0,none⟩),z8,z9,z10,z11,z12,z13,z14,z15,z16,z17,z18,z19,z20,z21,z22,z23,z24,z25,z26,z27,z28,z29,z30,z31,z32,z33,z34,z35,z36,z37,z38,z39,z40,z41,z42,z43,z44,z45,z46,z47,z48,z49,z50,z51,z52,z53,z54,z55,z56,z57,z58,z59,z60,z61,z62,z63,z64,z65,z66,z67,z68,z69,z70,z71,z72,z73,z74,z75,z76,z77,z78,z79,z80,z81,z82,z83,z84,z85,z86,z87,z88,z89,z90,z91,z92,z93,z94,z95,z96,z97,z98,z99,z100],defers := [] } wb:=by
 have HQ:=kz hQ;clear hQ
 delta reg10 Tryz.f59
 dsimp only;refine zn hmx 8 (by decide) (by kernel_rfl) (by kernel_rfl) (fun l a wv => ∃ U:Nat→Value,a = { tmps:=#[z0,z1,z2,.pointer (some ⟨B,0,none⟩),z4,z5,z6,.pointer (some ⟨wr.heap.size,0,none⟩),z8,z9,z10,z11,z12,z13,z14,z15,z16,z17,z18,z19,z20,z21,z22,z23,z24,z25,z26,z27,z28,z29,z30,z31,z32,z33,z34,z35,z36,z37,z38,z39,z40,z41,z42,z43,z44,z45,z46,z47,z48,z49,z50,z51,z52,z53,z54,z55,z56,z57,z58,z59,U 0,U 1,U 2,U 3,U 4,U 5,U 6,U 7,z68,z69,z70,z71,z72,z73,z74,z75,z76,z77,z78,z79,z80,z81,z82,z83,z84,z85,z86,z87,z88,z89,z90,z91,z92,z93,z94,z95,z96,z97,z98,z99,z100],defers := [] }∧RgX wb.drew (fun _ =>False) (maD B wr.heap.size M m1 m2) l U wv) ⟨fun x =>match x with | 0 =>z60 | 1 =>z61 | 2 =>z62 | 3 =>z63 | 4 =>z64 | 5 =>z65 | 6 =>z66 | _ =>z67,rfl,RgX.start _ _⟩ ?_ ?_
 ·rintro l a wv i ⟨U,rfl,hJ⟩ hl hi hif;have h0:=(mem_ready.1 hi).1;have hlt:=Xo hl h0;have HJ:=kz hJ;clear hJ hl
  replace hlt:i < 9:=hlt
  obtain rfl | rfl | rfl | rfl | rfl | rfl | rfl | rfl:i=0∨i=1∨i=2∨i=3∨i=4∨i=5∨i=6∨i=7:=by omega
  any_goals refine Ky rfl (fun K hK =>?_)
  ·clear hlt hif;go_simp;exact hK _ _ ⟨za U 0 _,rfl,(oz HJ).same 0 _ rfl⟩
  ·clear hlt hif;have d0:U 0=.pointer (some ⟨B,0,none⟩):=(oz HJ).val 0 (zb hi 0 (by kernel_rfl));go_simp;exact hK _ _ ⟨za U 1 _,(by rw [zc d0];rfl),(oz HJ).same 1 _ rfl⟩
  ·clear hlt hif;have d1:U 1=.pointer (some ⟨B,0,none⟩):=(oz HJ).val 1 (zb hi 1 (by kernel_rfl));go_simp;exact hK _ _ ⟨za U 2 _,(by rw [zc d1];rfl),(oz HJ).same 2 _ rfl⟩
  ·clear hlt hif;have d2:U 2=.pointer (some ⟨B,12,none⟩):=(oz HJ).val 2 (zb hi 2 (by kernel_rfl));have q0:=(oz HF wv (oz HJ).kp).2.1;go_simp;exact hK _ _ ⟨za U 3 _,(by rw [zc d2];rfl),(oz HJ).same 3 _ rfl⟩
  ·clear hlt hif;go_simp;exact hK _ _ ⟨za U 4 _,rfl,(oz HJ).same 4 _ rfl⟩
  ·clear hlt hif;have d4:U 4=.pointer (some ⟨wr.heap.size,0,none⟩):=(oz HJ).val 4 (zb hi 4 (by kernel_rfl));have q0:=(oz HF wv (oz HJ).kp).1.cell 0;go_simp;exact hK _ _ ⟨za U 5 _,(by rw [zc d4];rfl),(oz HJ).same 5 _ rfl⟩
  ·clear hlt hif;go_simp;exact hK _ _ ⟨za U 6 _,rfl,(oz HJ).same 6 _ rfl⟩
  ·clear hlt hif;have d6:U 6=.pointer (some ⟨wr.heap.size,1,none⟩):=(oz HJ).val 6 (zb hi 6 (by kernel_rfl));have q0:=(oz HF wv (oz HJ).kp).1.cell 1;go_simp;exact hK _ _ ⟨za U 7 _,(by rw [zc d6];rfl),(oz HJ).same 7 _ rfl⟩
 ·rintro l a wv ⟨U,rfl,hJ⟩ hall;have d3:U 3=.map (some M):=hJ.val 3 (hall 3 (by decide) (by decide));have d5:U 5=.int .i32 m1:=hJ.val 5 (hall 5 (by decide) (by decide));have d7:U 7=.int .i64 m2:=hJ.val 7 (hall 7 (by decide) (by decide));obtain ⟨G,hmp,hcg⟩:=(oz HF wv hJ.kp).2.2.mp;obtain ⟨w5,hu,hm5,hg5⟩:=hmp.update (int_keyed Tryz.underlying21) Tryz.underlying149 (by have:=(oz HX).2.2.2;unfold maxLen;omega) (keyOf_int_mk Tryz.underlying21 (JU (oz HX).1)) (plainElem_int (H:=Unit) Tryz.underlying3 (a:=m2) (zk1 (oz HX).2.1 (oz HX).2.2.1));have HN:Hz (ClAt w5 M (k+1) (zs++[(m1,m2)])∧KeptX (fun g =>g=M) wb.drew w5):=kz ⟨⟨_,hm5,hcg.put⟩,(hJ.kp.mono (fun g q =>q.elim)).trans ⟨hg5.os,hg5.tape,hg5.output,hg5.size,fun x hx hn =>hg5.block x hx (fun e =>hn (Zo e))⟩⟩;clear hJ hall hmp hcg hm5 hg5;refine Ky rfl (fun K hK =>?_);go_simp;have e:=oz HQ U _ HN;rw [d3,d5,d7] at e;exact hK _ _ e
section
open Go.WideElems Go.MapKept Go.ChangeMaps
theorem zcN {P:Program} {w:World} {t k e:TypeId} {R:Value→Option (DataW Unit × List MemPlace)} {b:Nat} {es:Array MapEntry} {clock:Nat} (K:Keyed P k) (ht:P.underlying t=some (.map k e)) {z:Value} (hz:∀ u:World,(zeroValue e).run P u=.ok z u) (hb:w.heap[b]?=some (.map es clock)) (F:WideElems.Fit P k R es clock)
  {key:Value} {kl:Lit} (hkey:keyOf P k key=some kl) :
  ∃ (v0 : Value) (st : Nat) (es1 : Array MapEntry) (clock1 : Nat), (Instr.mapEntry t (.map (some b)) key).run P w = .ok (.tuple #[v0, goInt st]) (setBlock w b (.map es1 clock1)) ∧
    ∀ (w2:World) (val:Value),w2.heap[b]?=some (.map es1 clock1)→∃ es' clock',(Instr.entryStore t (.map (some b)) (goInt st) val).run P w2=.ok () (setBlock w2 b (.map es' clock')) ∧
      (Instr.mapUpdate t (.map (some b)) key val).run P w=.ok () (setBlock w b (.map es' clock')):=by
 obtain ⟨s1,s2,_⟩:=F.stamped;rcases K.find w hkey es.toList F.keys with ⟨h1,h2⟩ | ⟨j,e0,h1,h2,h3⟩
 ·refine ⟨z,clock,es.push ⟨key,z,clock⟩,clock+1, ?_,fun w2 val hw2 =>⟨es.push ⟨key,val,clock⟩,clock+1, ?_, ?_⟩⟩
  ·simp [Instr.mapEntry,run_underlying ht,MapKept.run_getObj_map hb,K.check w false hkey,h1,hz,MapKept.run_setObj_map _ hb,Result.andThen,setBlock]
  ·have hidx:(es.push ⟨key,z,clock⟩).findIdx? (fun e =>((e.born:Nat):Int) == ((clock:Nat):Int))=some es.size:=by
    rw [findIdx_arr];refine findIdx_born (l:=(es.push ⟨key,z,clock⟩).toList) (j:=es.size) (e0:=⟨key,z,clock⟩) ?_ (by simp);simp only [Array.toList_push,List.map_append,List.map_cons,List.map_nil];refine List.nodup_append.2 ⟨s2,by simp,fun a ha c hc e1 =>?_⟩;simp only [List.mem_singleton] at hc;obtain ⟨x,hx,rfl⟩:=List.mem_map.1 ha;have:=s1 x hx;omega
   have hmod:(es.push ⟨key,z,clock⟩).modify es.size (fun e => { e with val:=val })=es.push ⟨key,val,clock⟩:=by
    apply Array.ext';rw [Array.toList_modify,Array.toList_push,Array.toList_push, ← Array.length_toList,modify_last]
   simp [Instr.entryStore,MapKept.run_getObj_map hw2,asInt,asIntOf,goInt,hidx,hmod,MapKept.run_setObj_map _ hw2,Result.andThen,setBlock]
  ·simp [Instr.mapUpdate,run_underlying ht,MapKept.run_getObj_map hb,K.check w false hkey,h1,MapKept.run_setObj_map _ hb,Result.andThen,setBlock]
 ·have hj:es[j]?=some e0:=by simpa using h2
  have hsame:es.modify j (fun e => { e with key:=key })=es:=by
   apply Array.ext';rw [Array.toList_modify,modify_eq_set _ _ _ _ h2];have:({ e0 with key:=key }:MapEntry)=e0:=by rw [← h3]
   rw [this];exact set_self _ _ _ h2
  refine ⟨e0.val,e0.born,es,clock, ?_,fun w2 val hw2 =>⟨es.modify j (fun e' => { e' with key:=key,val:=val }),clock, ?_, ?_⟩⟩
  ·simp [Instr.mapEntry,run_underlying ht,MapKept.run_getObj_map hb,K.check w false hkey,h1,hj,h3,K.stays w hkey,hsame,MapKept.run_setObj_map _ hb,Result.andThen,setBlock]
  ·have hidx:es.findIdx? (fun e =>((e.born:Nat):Int) == ((e0.born:Nat):Int))=some j:=by
    rw [findIdx_arr];exact findIdx_born s2 h2
   have hmod:es.modify j (fun e => { e with val:=val })=es.modify j (fun e' => { e' with key:=key,val:=val }):=by
    apply Array.ext';rw [Array.toList_modify,Array.toList_modify,modify_eq_set _ _ _ _ h2,modify_eq_set _ _ _ _ h2, ← h3]
   simp [Instr.entryStore,MapKept.run_getObj_map hw2,asInt,asIntOf,goInt,hidx,hmod,MapKept.run_setObj_map _ hw2,Result.andThen,setBlock]
  ·simp [Instr.mapUpdate,run_underlying ht,MapKept.run_getObj_map hb,K.check w false hkey,h1,hj,h3,K.stays w hkey,MapKept.run_setObj_map _ hb,Result.andThen,setBlock]
end
theorem MpAt.same {w w':World} {kt:TypeId} {R:Value→Option (DataW Unit × List MemPlace)} {M n:Nat} {G:Lit→Option (DataW Unit)} (h:MpAt w kt R M n G) (e:w'.heap[M]?=w.heap[M]?):MpAt w' kt R M n G:=by
 obtain ⟨D,⟨es,clock,hb,r⟩,h2⟩:=h;exact ⟨D,⟨es,clock,e.trans hb,r⟩,h2⟩
theorem MpAt.entry {w:World} {kt mt et:TypeId} {R:Value→Option (DataW Unit × List MemPlace)} {M n:Nat} {G:Lit→Option (DataW Unit)} (h:MpAt w kt R M n G) (K:Keyed Tryz.prog kt) (ht:Tryz.prog.underlying mt=some (.map kt et)) (hn:n < maxLen) {z:Value} (hz:∀ u:World,(zeroValue et).run Tryz.prog u=.ok z u) {key:Value} {k:Lit} (hk:keyOf Tryz.prog kt key=some k) :
  ∃ (v0 : Value) (st : Nat) (w1 : World), (Instr.mapEntry mt (.map (some M)) key).run Tryz.prog w = .ok (.tuple #[v0, goInt st]) w1 ∧ w.grownBy w1 (some M) ∧
    ∀ (w2:World) (val:Value) (d:DataW Unit) (ps:List MemPlace),w2.heap[M]?=w1.heap[M]?→R val=some (d,ps)→∃ w3,(Instr.entryStore mt (.map (some M)) (goInt st) val).run Tryz.prog w2=.ok () w3∧MpAt w3 kt R M (n+1) (putG G k d)∧w2.grownBy w3 (some M):=by
 have h0:=h;obtain ⟨D,⟨es,clock,hb,F,hs,hD⟩,h2⟩:=h;obtain ⟨v0,st,es1,clock1,hr,hst⟩:=zcN K ht hz hb F hk;refine ⟨v0,st,_,hr,⟨rfl,rfl,rfl,by simp [ChangeMaps.setBlock],fun i _ hi =>ChangeMaps.heap_setBlock_other hb _ (fun e =>hi (by rw [e]))⟩,fun w2 val d ps hw2 hv =>?_⟩;rw [ChangeMaps.heap_setBlock_same hb] at hw2;obtain ⟨es',clock',hr2,hu⟩:=hst w2 val hw2;obtain ⟨w',hr',h3,h4⟩:=h0.update K ht hn hk hv;rw [hu] at hr';injection hr' with _ e;refine ⟨_,hr2,h3.same ?_,⟨rfl,rfl,rfl,by simp [ChangeMaps.setBlock],fun i _ hi =>ChangeMaps.heap_setBlock_other hw2 _ (fun e =>hi (by rw [e]))⟩⟩;rw [← e,ChangeMaps.heap_setBlock_same hw2,ChangeMaps.heap_setBlock_same hb]
def zig (a b:Int):DataW Unit := .agg [.lit (.int .i32 a),.lit (.int .i32 b)]
def Y5 (v:Value):Option (DataW Unit × List MemPlace):=match v with
 | .agg cs =>(match cs.toList with
  | [.int .i32 a,.int .i32 b] =>some (zig a b,[])
  | _ =>none)
 | _ =>none
theorem KI (a b:Int):Y5 (.agg #[.int .i32 a,.int .i32 b])=some (zig a b,[]):=rfl
theorem QU {v:Value} {a b:Int} {ps:List MemPlace} (h:Y5 v=some (zig a b,ps)):v=.agg #[.int .i32 a,.int .i32 b]:=by
 unfold Y5 at h;split at h
 ·rename_i cs
  split at h
  ·rename_i x y e
   injection h with h;injection h with h h';unfold zig at h;injection h with h;injection h with h1 h2;injection h2 with h2 _;injection h1 with h1;injection h1 with _ h1;injection h2 with h2;injection h2 with _ h2;subst h1 h2;have:cs=#[Value.int .i32 x,Value.int .i32 y]:=by rw [← Array.toArray_toList (xs:=cs),e]
   rw [this]
  ·cases h
 ·cases h
def PaG (zs:List (Int × Int × Int)) (G:Lit→Option (DataW Unit)):Prop := ∀ r,R32 r→((∀ x ∈ zs,x.1≠r)∧G (.int .i32 r)=none)∨∃ x ∈ zs,x.1=r∧G (.int .i32 r)=some (zig x.2.1 x.2.2)
theorem PaG.put {zs:List (Int × Int × Int)} {G:Lit→Option (DataW Unit)} {x:Int × Int × Int} (h:PaG zs G):PaG (zs++[x]) (putG G (.int .i32 x.1) (zig x.2.1 x.2.2)):=fun r h32 =>by
 unfold putG;by_cases e:x.1=r
 ·subst e;exact .inr ⟨x,by simp,rfl,if_pos rfl⟩
 ·rw [if_neg (fun q =>e (by injection q with _ q;exact q.symm))];rcases h r h32 with ⟨h1,h2⟩ | ⟨y,hy,e2,h2⟩
  ·exact .inl ⟨fun y hy =>by rcases List.mem_append.1 hy with q | q;exact h1 y q;(obtain rfl:y=x:=by simpa using q);exact e,h2⟩
  ·exact .inr ⟨y,List.mem_append.2 (.inl hy),e2,h2⟩
def JoG (zs:List (Int × Int × Int)) (G:Lit→Option (DataW Unit)):Prop := ∀ a b k,keyOf Tryz.prog 157 (.agg #[.int .i32 a,.int .i32 b])=some k→((∀ x ∈ zs, ¬ (x.2.1=a∧x.2.2=b))∧G k=none)∨∃ x ∈ zs,x.2.1=a∧x.2.2=b∧G k=some (.lit (.int .i32 x.1))
theorem JoG.put {zs:List (Int × Int × Int)} {G:Lit→Option (DataW Unit)} {x:Int × Int × Int} {k:Lit} (h:JoG zs G) (hk:keyOf Tryz.prog 157 (.agg #[.int .i32 x.2.1,.int .i32 x.2.2])=some k):JoG (zs++[x]) (putG G k (.lit (.int .i32 x.1))):=fun a b k2 hk2 =>by
 unfold putG;by_cases e:x.2.1=a∧x.2.2=b
 ·obtain ⟨rfl,rfl⟩:=e;obtain rfl:k=k2:=Zo (hk.symm.trans hk2);exact .inr ⟨x,by simp,rfl,rfl,if_pos rfl⟩
 ·have hne:¬ k2=k:=fun q =>e (by
   subst q;have:=arr_keyed.inj hk hk2;injection this with this;have h0:=congrArg (fun l:Array Value =>l[0]?) this;have h1:=congrArg (fun l:Array Value =>l[1]?) this;simp at h0 h1;exact ⟨h0,h1⟩)
  rw [if_neg hne];rcases h a b k2 hk2 with ⟨h1,h2⟩ | ⟨y,hy,e2,e3,h2⟩
  ·exact .inl ⟨fun y hy =>by rcases List.mem_append.1 hy with q | q;exact h1 y q;(obtain rfl:y=x:=by simpa using q);exact e,h2⟩
  ·exact .inr ⟨y,List.mem_append.2 (.inl hy),e2,e3,h2⟩
structure PaAt (w:World) (M n:Nat) (zs:List (Int × Int × Int)):Prop where
 mp:∃ G,MpAt w 21 Y5 M n G∧PaG zs G
structure JoAt (w:World) (M n:Nat) (zs:List (Int × Int × Int)):Prop where
 mp:∃ G,MpAt w 157 (plainElem Tryz.prog 21) M n G∧JoG zs G
theorem PaAt.below {w w':World} {M n:Nat} {zs:List (Int × Int × Int)} (h:PaAt w M n zs) (hb:Below w.heap.size w w'):PaAt w' M n zs:=by
 obtain ⟨G,h1,h2⟩:=h.mp;exact ⟨G,h1.below hb,h2⟩
theorem JoAt.below {w w':World} {M n:Nat} {zs:List (Int × Int × Int)} (h:JoAt w M n zs) (hb:Below w.heap.size w w'):JoAt w' M n zs:=by
 obtain ⟨G,h1,h2⟩:=h.mp;exact ⟨G,h1.below hb,h2⟩
end Go.Proofs.YthchopdfmchpkaaGreat
