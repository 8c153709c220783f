/- Texts of this claim, one behind the other. -/
import Derived.Test.YtmemedpoaocdkaaGreatM23
import Derived.Test.YtmemedpoaocdkaaGreatM6
import Derived.Test.YtmemedpoaocdkaaGreatM21
import Derived.Test.YtmemedpoaocdkaaGreatM3
/- A Book of tables: how it lies in memory. -/
namespace Go.Proofs.YtmemedpoaocdkaaGreat
open Go.RowKit Go.Shelf Go.Maps
set_option linter.unusedVariables false
def XMap (X:Nat→Prop) (w:World):Prop := ∀ g,X g→∃ es c,w.heap[g]?=some (.map es c)
theorem XMap.ty {X:Nat→Prop} {w:World} (h:XMap X w):XTy X w:=fun g hx =>.inr (h g hx)
theorem XMap.ok {X:Nat→Prop} {w:World} (h:XMap X w):XOk X w:=fun g hx =>.inr (h g hx)
theorem XMap.no {X:Nat→Prop} {w:World} (h:XMap X w) {g:Nat} {cur:Array Value} {t:TypeId} (hb:Blk w g cur t):¬ X g:=fun hx =>by
 obtain ⟨es,c,hm⟩:=h g hx
 unfold Blk at hb
 rw [hb] at hm
 injection hm with e
 cases e
theorem XMap.row {X:Nat→Prop} {w w':World} (hX:XMap X w) (k:KeptX X w w') {lo E sz n:Nat} {v:Value} {xs:List Value} (h:w.ownsRow lo E sz v n xs):w'.ownsRow lo E sz v n xs:=by
 rcases h.2 with ⟨e,h0⟩ | ⟨g,cap,cur,e,hb,hg,r⟩
 ·exact ⟨h.1,.inl ⟨e,h0⟩⟩
 ·exact ⟨h.1,.inr ⟨g,cap,cur,e,hb,k.blk hg (hX.no hg),r⟩⟩
theorem MpAt.isMap {w:World} {kt:TypeId} {R:Value→Option (DataW Unit × List MemPlace)} {M n:Nat} {G:Lit→Option (DataW Unit)} (h:MpAt w kt R M n G):∃ es c,w.heap[M]?=some (.map es c):=by
 obtain ⟨D,⟨es,clock,hb,r⟩,h2⟩:=h
 exact ⟨es,clock,hb⟩
theorem zeB {lo:Nat} {W w w':World} {X:Nat→Prop} (h:Below lo W w) (hk:KeptX X w w') (hX:∀ g,X g→lo≤g) (hl:lo≤W.heap.size):Below lo W w' :=
 ⟨hk.os.trans h.os,hk.tape.trans h.tape,hk.output.trans h.output,Nat.le_trans h.size hk.size,fun g hg =>(hk.block g (Nat.lt_of_lt_of_le hg (Nat.le_trans hl h.size)) (fun hx =>by have:=hX g hx;omega)).trans (h.block g hg)⟩
theorem FoAt.keptB {w w':World} {B M n:Nat} {zs:List (Int × ByteArray)} {cur:Array Value} {t:TypeId} (h:FoAt w M n zs) (k:KeptX (fun g =>g=B) w w') (hb:Blk w B cur t) (hc:∀ q y,cur[0]?≠some (.int q y)):FoAt w' M n zs:=by
 obtain ⟨G,h1,h2⟩:=h.mp
 refine ⟨G,k.mp h1 (zcq h1 hb),fun r hr =>?_⟩
 rcases h2 r hr with h3 | ⟨x,hx,e,g,c,h4,h5,h6⟩
 ·exact .inl h3
 ·refine .inr ⟨x,hx,e,g,c,h4,h5,Nat.lt_of_lt_of_le h6.1 k.size,fun j y hy =>?_⟩
  refine (k.cell (p:=⟨g,j,none⟩) h6.1 (fun e =>?_)).trans (h6.2 j y hy)
  have e:g=B:=e
  subst e
  obtain ⟨y0,hy0⟩:∃ y0,(zai x.2)[0]?=some y0:=⟨_,List.getElem?_eq_getElem (by have:=(List.getElem?_eq_some_iff.1 hy).1;omega)⟩
  have:=h6.2 0 y0 hy0
  rw [hb.cell 0] at this
  exact hc _ _ this
structure BkA (w:World) (B lo:Nat) (T:TV) (t0 t1 t2 t3 t4 t5 t6 t7 sv:Value) (bs:List Nat) (Bc Bd Ba M5 n5 M6 n6 M7 n7 MF nF ML nL:Nat):Prop where
 bx:Blk w B (zoY t0 t1 t2 t3 t4 t5 t6 t7 sv Bc Bd Ba M5 M6 M7 MF ML) 107
 tb:TabAt w lo T (.agg #[t0,t1,t2,t3,t4,t5,t6,t7])
 len:bs.length=T.sc.length
 row:w.ownsRow lo 101 1 sv T.sc.length (bs.map ziE)
 sets:∀ (j:Nat) (s:ByteArray × List (Int × Int)) (b:Nat),T.sc[j]?=some s→bs[j]?=some b→SetV w s.2 b
 co:SetV w T.co Bc
 dr:SetV w T.dr Bd
 al:SetV w T.al Ba
 cl:ClAt w M5 n5 T.ma
 pa:PaAt w M6 n6 T.pr
 jo:JoAt w M7 n7 T.pr
 fo:FoAt w MF nF T.fo
 lk:FoAt w ML nL T.lk
theorem BkA.below {w w':World} {B lo:Nat} {T:TV} {t0 t1 t2 t3 t4 t5 t6 t7 sv:Value} {bs:List Nat} {Bc Bd Ba M5 n5 M6 n6 M7 n7 MF nF ML nL:Nat} (h:BkA w B lo T t0 t1 t2 t3 t4 t5 t6 t7 sv bs Bc Bd Ba M5 n5 M6 n6 M7 n7 MF nF ML nL) (hb:Below w.heap.size w w'):BkA w' B lo T t0 t1 t2 t3 t4 t5 t6 t7 sv bs Bc Bd Ba M5 n5 M6 n6 M7 n7 MF nF ML nL :=
 ⟨h.bx.below hb h.bx.lt,h.tb.below hb,h.len,zao h.row hb,fun j s b h1 h2 =>(h.sets j s b h1 h2).below hb,h.co.below hb,h.dr.below hb,h.al.below hb,h.cl.below hb,h.pa.below hb,h.jo.below hb,h.fo.below hb,h.lk.below hb⟩
def BookAt (w:World) (B:Nat) (T:TV):Prop := ∃ lo t0 t1 t2 t3 t4 t5 t6 t7 sv bs Bc Bd Ba M5 n5 M6 n6 M7 n7 MF nF ML nL,BkA w B lo T t0 t1 t2 t3 t4 t5 t6 t7 sv bs Bc Bd Ba M5 n5 M6 n6 M7 n7 MF nF ML nL
theorem BookAt.below {w w':World} {B:Nat} {T:TV} (h:BookAt w B T) (hb:Below w.heap.size w w'):BookAt w' B T:=by
 obtain ⟨lo,t0,t1,t2,t3,t4,t5,t6,t7,sv,bs,Bc,Bd,Ba,M5,n5,M6,n6,M7,n7,MF,nF,ML,nL,h⟩:=h
 exact ⟨lo,t0,t1,t2,t3,t4,t5,t6,t7,sv,bs,Bc,Bd,Ba,M5,n5,M6,n6,M7,n7,MF,nF,ML,nL,h.below hb⟩
theorem zkI {w:World} {lo:Nat} {T:TV} {t0 t1 t2 t3 t4 t5 t6 t7:Value} (h:TabAt w lo T (.agg #[t0,t1,t2,t3,t4,t5,t6,t7])):∀ q y,t0≠.int q y:=fun q y e0 =>by
 obtain ⟨v0,us,v1,v2,v3,v4,v5,v6,v7,e,hl,h1⟩:=h
 injection e with e
 have e:=congrArg (fun l:Array Value =>l[0]?) e
 have e:t0=v0:=by simpa using e
 have hr:=h1.own 0 v0 _ rfl rfl
 rcases hr.2 with ⟨e1,_⟩ | ⟨g,cap,cur,e1,_⟩
 ·rw [← e,e0] at e1;cases e1
 ·rw [← e,e0] at e1;cases e1
theorem znz {w wr wn wq:World} {B lo:Nat} {T:TV} {t0 t1 t2 t3 t4 t5 t6 t7 sv:Value} {bs:List Nat} {Bc Bd Ba M5 n5 M6 n6 M7 n7 MF nF ML nL:Nat}
  (hK:BkC w lo T t0 t1 t2 t3 t4 t5 t6 t7 Bc Bd Ba M5 M6 M7 MF nF ML nL) (hB:Blk w B (zoY t0 t1 t2 t3 t4 t5 t6 t7 (.slice none 0 0) Bc Bd Ba M5 M6 M7 MF ML) 107) (hlo:lo≤w.heap.size)
  (hS:ScSt w wr B T t0 t1 t2 t3 t4 t5 t6 t7 Bc Bd Ba M5 M6 M7 MF ML T.sc.length sv bs) (h2:ClAt wn M5 n5 T.ma) (k2:KeptX (fun g =>g=M5) wr wn) (h3:PaAt wq M6 n6 T.pr) (h4:JoAt wq M7 n7 T.pr) (k3:KeptX (fun g =>g=M6∨g=M7) wn wq):BookAt wq B T:=by
 have m5:=hK.m5 21 zdT
 have m6:=hK.m6 21 zdT
 have m7:=hK.m7 21 zdT
 have b5:=zcq m5 hB
 have b6:=zcq m6 hB
 have b7:=zcq m7 hB
 have x1:XTy (fun g =>g=B) w:=fun g e =>by
  subst e
  exact .inl ⟨_,_,hB,.inl rfl⟩
 have m5r:=hS.kp.mp m5 b5
 have x2:XMap (fun g =>g=M5) wr:=fun g e =>by
  subst e
  exact m5r.isMap
 have m6n:=k2.mp (hS.kp.mp m6 b6) (fun e =>hK.n56 e.symm)
 have m7n:=k2.mp (hS.kp.mp m7 b7) (fun e =>hK.n57 e.symm)
 have x3:XMap (fun g =>g=M6∨g=M7) wn:=fun g e =>by
  rcases e with e | e
  ·subst e
   exact m6n.isMap
  ·subst e
   exact m7n.isMap
 have sv1:∀ l C,SetV w l C→SetV wq l C:=fun l C h =>x3.ty.setV k3 (x2.ty.setV k2 (x1.setV hS.kp h))
 have hc0:∀ q y,(zoY t0 t1 t2 t3 t4 t5 t6 t7 (.slice none 0 0) Bc Bd Ba M5 M6 M7 MF ML)[0]?≠some (.int q y):=fun q y e =>zkI hK.tb q y (Option.some.inj e)
 have fo1:∀ M n l,M≠M5→M≠M6→M≠M7→FoAt w M n l→FoAt wq M n l:=fun M n l q5 q6 q7 h =>x3.ok.fo k3 (x2.ok.fo k2 (h.keptB hS.kp hB hc0) q5) (fun e =>e.elim q6 q7)
 exact ⟨lo, t0, t1, t2, t3, t4, t5, t6, t7, sv, bs, Bc, Bd, Ba, M5, n5, M6, n6, M7, n7, MF, nF, ML, nL,
   { bx := k3.blk (k2.blk hS.bx (fun e => b5 e.symm)) (fun e => e.elim (fun e => b6 e.symm) (fun e => b7 e.symm))
     tb:=x3.ty.tab k3 (x2.ty.tab k2 (x1.tab hS.kp hK.tb))
     len:=hS.len
     row:=x3.row k3 (x2.row k2 (za8 hS.row hlo))
     sets:=fun j s b h1 hb =>x3.ty.setV k3 (x2.ty.setV k2 (hS.sets j s b h1 hb))
     co:=sv1 _ _ hK.co
     dr:=sv1 _ _ hK.dr
     al:=sv1 _ _ hK.al
     cl:=by
       obtain ⟨G,g1,g2⟩:=h2.mp
       exact ⟨G,k3.mp g1 (fun e =>e.elim hK.n56 hK.n57),g2⟩
     pa:=h3
     jo:=h4
     fo:=fo1 _ _ _ (fun e =>hK.n5F e.symm) (fun e =>hK.n6F e.symm) (fun e =>hK.n7F e.symm) hK.mF
     lk:=fo1 _ _ _ (fun e =>hK.n5L e.symm) (fun e =>hK.n6L e.symm) (fun e =>hK.n7L e.symm) hK.mL }⟩
theorem zkQ {W w:World} {lo:Nat} {a:Option Addr} {zs:List Value} (h:RowC W lo a zs) (hc:∀ g j,g < lo→w.cell? ⟨g,j,none⟩=W.cell? ⟨g,j,none⟩):RowC w lo a zs:=fun h0 =>by
 obtain ⟨g,q,e,hg,h1⟩:=h h0
 exact ⟨g,q,e,hg,fun j v hv =>(hc g (q+j) hg).trans (h1 j v hv)⟩
theorem BookAt.cls {w:World} {B:Nat} {T:TV} (h:BookAt w B T):∃ M n,w.cell? ⟨B,12,none⟩=some (.map (some M))∧ClAt w M n T.ma:=by
 obtain ⟨lo,t0,t1,t2,t3,t4,t5,t6,t7,sv,bs,Bc,Bd,Ba,M5,n5,M6,n6,M7,n7,MF,nF,ML,nL,h⟩:=h
 exact ⟨M5,n5,h.bx.cell 12,h.cl⟩
theorem BookAt.pas {w:World} {B:Nat} {T:TV} (h:BookAt w B T):∃ M n,w.cell? ⟨B,13,none⟩=some (.map (some M))∧PaAt w M n T.pr:=by
 obtain ⟨lo,t0,t1,t2,t3,t4,t5,t6,t7,sv,bs,Bc,Bd,Ba,M5,n5,M6,n6,M7,n7,MF,nF,ML,nL,h⟩:=h
 exact ⟨M6,n6,h.bx.cell 13,h.pa⟩
theorem BookAt.fos {w:World} {B:Nat} {T:TV} (h:BookAt w B T):∃ M n,w.cell? ⟨B,15,none⟩=some (.map (some M))∧FoAt w M n T.fo:=by
 obtain ⟨lo,t0,t1,t2,t3,t4,t5,t6,t7,sv,bs,Bc,Bd,Ba,M5,n5,M6,n6,M7,n7,MF,nF,ML,nL,h⟩:=h
 exact ⟨MF,nF,h.bx.cell 15,h.fo⟩
theorem BookAt.lks {w:World} {B:Nat} {T:TV} (h:BookAt w B T):∃ M n,w.cell? ⟨B,16,none⟩=some (.map (some M))∧FoAt w M n T.lk:=by
 obtain ⟨lo,t0,t1,t2,t3,t4,t5,t6,t7,sv,bs,Bc,Bd,Ba,M5,n5,M6,n6,M7,n7,MF,nF,ML,nL,h⟩:=h
 exact ⟨ML,nL,h.bx.cell 16,h.lk⟩
theorem BookAt.cos {w:World} {B:Nat} {T:TV} (h:BookAt w B T):∃ C,w.cell? ⟨B,9,none⟩=some (.pointer (some ⟨C,0,none⟩))∧SetV w T.co C:=by
 obtain ⟨lo,t0,t1,t2,t3,t4,t5,t6,t7,sv,bs,Bc,Bd,Ba,M5,n5,M6,n6,M7,n7,MF,nF,ML,nL,h⟩:=h
 exact ⟨Bc,h.bx.cell 9,h.co⟩
theorem BookAt.drs {w:World} {B:Nat} {T:TV} (h:BookAt w B T):∃ C,w.cell? ⟨B,10,none⟩=some (.pointer (some ⟨C,0,none⟩))∧SetV w T.dr C:=by
 obtain ⟨lo,t0,t1,t2,t3,t4,t5,t6,t7,sv,bs,Bc,Bd,Ba,M5,n5,M6,n6,M7,n7,MF,nF,ML,nL,h⟩:=h
 exact ⟨Bd,h.bx.cell 10,h.dr⟩
theorem BookAt.als {w:World} {B:Nat} {T:TV} (h:BookAt w B T):∃ C,w.cell? ⟨B,11,none⟩=some (.pointer (some ⟨C,0,none⟩))∧SetV w T.al C:=by
 obtain ⟨lo,t0,t1,t2,t3,t4,t5,t6,t7,sv,bs,Bc,Bd,Ba,M5,n5,M6,n6,M7,n7,MF,nF,ML,nL,h⟩:=h
 exact ⟨Ba,h.bx.cell 11,h.al⟩
theorem zdk {w:World} {l:List (Int × Int)} {C:Nat} (hl:l.length≤1000000) (h:SetV w l C) (r:Int):Calls Tryz.prog 65 #[.pointer (some ⟨C,0,none⟩),.int .i32 r] w fun e w' =>e=.returned (.bool (zal l r))∧Below w.heap.size w w':=by
 obtain ⟨zs,lo0,h1,h2,h3,h4⟩:=h
 have:=zjx C zs r w (h1.set h2 (by omega))
 rwa [h4 r] at this
set_option maxRecDepth 100000 in
theorem zec {T:TV} (hO:zap T) (B:Nat) (r:Int) (w:World) (h:BookAt w B T):Calls Tryz.prog 98 #[.pointer (some ⟨B,0,none⟩),.int .i32 r] w fun e w' =>e=.returned (.bool (zal T.co r))∧Below w.heap.size w w':=by
 obtain ⟨C,c0,hs⟩:=h.cos
 have HC:=kz (zdk (by have:=hO.l1;omega) hs r)
 clear hs h hO
 go_enter Tryz.func98,Tryz.ntmps98
 go_wp2_with fail
 refine (oz HC).mono ?_
 rintro e w1 ⟨rfl,hb⟩
 have HB:=kz hb
 clear hb HC
 go_wp2_with fail
 go_ret
 exact ⟨rfl,oz HB⟩
set_option maxRecDepth 100000 in
theorem zcJ {T:TV} (hO:zap T) (B:Nat) (r:Int) (w:World) (h:BookAt w B T):Calls Tryz.prog 42 #[.pointer (some ⟨B,0,none⟩),.int .i32 r] w fun e w' =>e=.returned (.bool (drB T r))∧Below w.heap.size w w':=by
 obtain ⟨C,c0,hs⟩:=h.drs
 have HC:=kz (zdk (by have:=hO.l6;omega) hs r)
 clear hs h hO
 go_enter Tryz.func42,Tryz.ntmps42
 go_wp2_with fail
 refine (oz HC).mono ?_
 rintro e w1 ⟨rfl,hb⟩
 have HB:=kz hb
 clear hb HC
 go_wp2_with fail
 go_ret
 exact ⟨rfl,oz HB⟩
theorem MpAt.look1 {w:World} {kt mt et:TypeId} {R:Value→Option (DataW Unit × List MemPlace)} {M n:Nat} {G:Lit→Option (DataW Unit)} (h:MpAt w kt R M n G) (K:Keyed Tryz.prog kt) (ht:Tryz.prog.underlying mt=some (.map kt et)) {z:Value} (hz:(zeroValue et).run Tryz.prog w=.ok z w) {zd:DataW Unit} {zp:List MemPlace} (hzd:R z=some (zd,zp)) {key:Value} {k:Lit} (hk:keyOf Tryz.prog kt key=some k) (hkl:WideAt.IsKeyLit k) :
  ∃ v ps,(Instr.lookup mt (.map (some M)) key false).run Tryz.prog w=.ok v w∧R v=some ((G k).getD zd,ps):=by
 obtain ⟨D,h1,h2⟩:=h
 obtain ⟨v,ps,hr,hv⟩:=h1.lookup K ht hz hzd hk
 rw [(h2 k hkl).2] at hv
 exact ⟨v,ps,hr,hv⟩
theorem zl8 (u:World):(zeroValue 3).run Tryz.prog u=.ok (.int .i64 0) u:=by kernel_rfl
set_option maxRecDepth 100000 in
theorem zlP {T:TV} (hO:zap T) {w:World} {M n:Nat} (h:ClAt w M n T.ma) {r:Int} (hr:R32 r):(Instr.lookup 102 (.map (some M)) (.int .i32 r) false).run Tryz.prog w=.ok (.int .i64 (za7 T r)) w:=by
 obtain ⟨G,hm,hg⟩:=h.mp
 obtain ⟨v,ps,hl,hv⟩:=hm.look1 (int_keyed Tryz.underlying21) Tryz.underlying102 (zl8 w) (plainElem_int Tryz.underlying3 (by decide)) (keyOf_int_mk Tryz.underlying21 (zhI hr)) trivial
 obtain ⟨a,rfl,ha,_⟩:=plainElem_int_inv Tryz.underlying3 hv
 injection ha with ha _
 rw [hl]
 rcases hg r hr with ⟨h1,h2⟩ | ⟨x,hx,rfl,h2⟩
 ·rw [h2] at ha
  injection ha with ha
  injection ha with _ ha
  rw [zg0 h1,ha]
 ·rw [h2] at ha
  injection ha with ha
  injection ha with _ ha
  rw [zjB hO hx,ha]
set_option maxRecDepth 100000 in
theorem zbW {T:TV} (hO:zap T) (B:Nat) (r:Int) (hr:R32 r) (w:World) (h:BookAt w B T):Calls Tryz.prog 99 #[.pointer (some ⟨B,0,none⟩),.int .i32 r] w fun e w' =>e=.returned (.int .i64 (za7 T r))∧w'=w:=by
 obtain ⟨M,n,c0,hs⟩:=h.cls
 have hl:=zlP hO hs hr
 clear hs h hO hr
 go_enter Tryz.func99,Tryz.ntmps99
 go_wp2_with fail
 go_ret
 exact ⟨rfl,rfl⟩
def zqs (x:Option (Int × Int × Int)):Value := .agg #[.int .i32 ((x.map (·.2.1)).getD 0),.int .i32 ((x.map (·.2.2)).getD 0)]
set_option maxRecDepth 100000 in
theorem zjq {T:TV} (hO:zap T) {w:World} {M n:Nat} (h:PaAt w M n T.pr) {r:Int} (hr:R32 r):(Instr.lookup 103 (.map (some M)) (.int .i32 r) true).run Tryz.prog w=.ok (.tuple #[zqs (zbz T r),.bool (zbz T r).isSome]) w:=by
 obtain ⟨G,hm,hg⟩:=h.mp
 obtain ⟨v,ps,hl,hv⟩:=hm.look (int_keyed Tryz.underlying21) Tryz.underlying103 (zjh w) (zgJ 0 0) (keyOf_int_mk Tryz.underlying21 (zhI hr)) trivial
 rw [hl]
 rcases hg r hr with ⟨h1,h2⟩ | ⟨x,hx,rfl,h2⟩
 ·rw [h2] at hv
  rw [zfZ hv,zkv h1,h2]
  rfl
 ·rw [h2] at hv
  rw [zfZ hv,znX hO hx,h2]
  rfl
theorem zi1 {v:Value} {g n c:Nat} {ps:List MemPlace} (h:zd5 v=some (hdr g n c,ps)):v=.slice (some ⟨g,0,none⟩) n c:=by
 unfold zd5 at h
 split at h
 ·injection h with h
  injection h with h _
  unfold hdr at h
  injection h with h
  injection h with h1 h2
  injection h2 with h2 h3
  injection h3 with h3 _
  injection h1 with h1
  injection h1 with _ h1
  injection h2 with h2
  injection h2 with _ h2
  injection h3 with h3
  injection h3 with _ h3
  rw [Int.ofNat.inj h1,Int.ofNat.inj h2,Int.ofNat.inj h3]
 ·injection h with h
  injection h with h _
  unfold hdr at h
  injection h with h
  cases h
 ·cases h
theorem zh6 {v:Value} {ps:List MemPlace} (h:zd5 v=some (.agg [],ps)):v=.slice none 0 0:=by
 unfold zd5 at h
 split at h
 ·injection h with h
  injection h with h _
  unfold hdr at h
  injection h with h
  cases h
 ·rfl
 ·cases h
set_option maxRecDepth 100000 in
theorem znC {T:TV} {zs:List (Int × ByteArray)} (hpw:zs.Pairwise (fun x y =>x.1≠y.1)) {w:World} {M n:Nat} (h:FoAt w M n zs) {r:Int} (hr:R32 r):∃ a c,(Instr.lookup 105 (.map (some M)) (.int .i32 r) true).run Tryz.prog w=.ok (.tuple #[.slice a (((toP zs r).map (fun x =>zai x.2)).getD []).length c,.bool (toP zs r).isSome]) w∧RnC w w.heap.size a (((toP zs r).map (fun x =>zai x.2)).getD [])∧(toP zs r=none→a=none∧c=0):=by
 obtain ⟨G,hm,hg⟩:=h.mp
 obtain ⟨v,ps,hl,hv⟩:=hm.look (int_keyed Tryz.underlying21) Tryz.underlying105 (z := .slice none 0 0) (by kernel_rfl) zi0 (keyOf_int_mk Tryz.underlying21 (zhI hr)) trivial
 rcases hg r hr with ⟨h1,h2⟩ | ⟨x,hx,rfl,g,c,h2,h3,h4⟩
 ·rw [h2] at hv hl
  refine ⟨none,0, ?_, ?_,fun _ =>⟨rfl,rfl⟩⟩
  ·rw [hl,zkD h1,zh6 hv]
   rfl
  ·rw [zkD h1]
   intro h0
   simp at h0
 ·rw [h2] at hv hl
  refine ⟨some ⟨g,0,none⟩,c, ?_, ?_,fun q =>?_⟩
  ·rw [hl,zn4 hpw hx,zi1 hv]
   rfl
  ·rw [zn4 hpw hx]
   intro h0
   exact ⟨g,0,rfl,h4.1,fun j y hy =>by rw [Nat.zero_add];exact h4.2 j y hy⟩
  ·rw [zn4 hpw hx] at q
   cases q
end Go.Proofs.YtmemedpoaocdkaaGreat
namespace Go.Proofs.YtmemedpoaocdkaaGreat
open Go.RowKit Go.Shelf
set_option linter.unusedVariables false
theorem zaA {W:World} {lo E sz n:Nat} {a:Option Addr} {c:Nat} {xs:List Value} (h:W.ownsRow lo E sz (.slice a n c) n xs):RowC W W.heap.size a xs:=by
 intro h0
 have hl:=h.1
 have hn:n≠0:=fun e =>by rw [e,Nat.zero_mul] at hl;omega
 rcases zmW h (fun e =>absurd e hn) with ⟨_,e,_⟩ | ⟨g,c',e,_,_,_,hx⟩
 ·exact absurd e hn
 ·injection e with e1
  refine ⟨g,0,e1,ziG h g (by rw [e1];rfl),fun j u hu =>?_⟩
  have:=hx j u hu
  rw [show (⟨g,0,none⟩:Addr).add j=⟨g,0+j,none⟩ by cases j <;> simp [Addr.add]] at this
  exact this
theorem TabAt.inn {W:World} {lo:Nat} {T:TV} {v:Value} (h:TabAt W lo T v):∃ a0 a1 a2 a3 a4 a5 a6 a7 c0 c1 c2 c3 c4 c5 c6 c7 us,v=.agg #[.slice a0 T.sc.length c0,.slice a1 T.co.length c1,.slice a2 T.ma.length c2,.slice a3 T.pr.length c3,.slice a4 T.fo.length c4,.slice a5 T.lk.length c5,.slice a6 T.dr.length c6,.slice a7 T.al.length c7]∧TabIn W T a0 a1 a2 a3 a4 a5 a6 a7 us∧Lst W lo ((.slice a0 T.sc.length c0::us)++[.slice a1 T.co.length c1]++[.slice a2 T.ma.length c2]++[.slice a3 T.pr.length c3]++[.slice a4 T.fo.length c4]++[.slice a5 T.lk.length c5]++[.slice a6 T.dr.length c6]++[.slice a7 T.al.length c7]) (zl1 T us):=by
 obtain ⟨v0,us,v1,v2,v3,v4,v5,v6,v7,rfl,hu,hL⟩:=h
 have hM:(T.sc.map (fun s =>Ln.mk 113 2 s.2.length (za6 s.2))).length=us.length:=by rw [List.length_map,hu]
 have key:∀ (k:Nat) (x:Value) (l:Ln),((v0::us)++[v1]++[v2]++[v3]++[v4]++[v5]++[v6]++[v7])[k]?=some x→(zl1 T us)[k]?=some l→W.ownsRow lo l.E l.sz x l.n l.xs:=fun k x l hx hl =>hL.own k x l hx hl
 have A:∀ (k:Nat),((v0::us)++[v1]++[v2]++[v3]++[v4]++[v5]++[v6]++[v7])[us.length+1+k]?=[v1,v2,v3,v4,v5,v6,v7][k]?:=fun k =>by
  rw [show (v0::us)++[v1]++[v2]++[v3]++[v4]++[v5]++[v6]++[v7]=(v0::us)++[v1,v2,v3,v4,v5,v6,v7] by simp,List.getElem?_append_right (by simp)]
  congr 1
  simp
 have B:∀ (k:Nat),(zl1 T us)[us.length+1+k]?=[Ln.mk 113 2 T.co.length (za6 T.co),Ln.mk 115 2 T.ma.length (zdQ T.ma),Ln.mk 117 3 T.pr.length (zdv T.pr),Ln.mk 119 2 T.fo.length (zbH T.fo),Ln.mk 119 2 T.lk.length (zbH T.lk),Ln.mk 113 2 T.dr.length (za6 T.dr),Ln.mk 113 2 T.al.length (za6 T.al)][k]?:=fun k =>by
  unfold zl1
  rw [show ∀ (a:List Ln) (b c d e f g h:Ln),a++[b]++[c]++[d]++[e]++[f]++[g]++[h]=a++[b,c,d,e,f,g,h] from fun a b c d e f g h =>by simp,List.getElem?_append_right (by rw [List.length_cons,hM];omega)]
  congr 1
  rw [List.length_cons,hM]
  omega
 have o0:=key 0 v0 _ rfl rfl
 have o1:=key _ v1 _ (A 0) (B 0)
 have o2:=key _ v2 _ (A 1) (B 1)
 have o3:=key _ v3 _ (A 2) (B 2)
 have o4:=key _ v4 _ (A 3) (B 3)
 have o5:=key _ v5 _ (A 4) (B 4)
 have o6:=key _ v6 _ (A 5) (B 5)
 have o7:=key _ v7 _ (A 6) (B 6)
 obtain ⟨a0,c0,rfl⟩:=zb4 o0
 obtain ⟨a1,c1,rfl⟩:=zb4 o1
 obtain ⟨a2,c2,rfl⟩:=zb4 o2
 obtain ⟨a3,c3,rfl⟩:=zb4 o3
 obtain ⟨a4,c4,rfl⟩:=zb4 o4
 obtain ⟨a5,c5,rfl⟩:=zb4 o5
 obtain ⟨a6,c6,rfl⟩:=zb4 o6
 obtain ⟨a7,c7,rfl⟩:=zb4 o7
 refine ⟨a0,a1,a2,a3,a4,a5,a6,a7,c0,c1,c2,c3,c4,c5,c6,c7,us,rfl,⟨hu,zaA o0,zaA o1,zaA o2,zaA o3,zaA o4,zaA o5,zaA o6,zaA o7, ?_⟩,hL⟩
 intro j x u hx hu2
 have oj:=key (j+1) u (Ln.mk 113 2 x.2.length (za6 x.2)) (by
  rw [show ∀ (a:List Value) (b c d e f g h:Value),a++[b]++[c]++[d]++[e]++[f]++[g]++[h]=a++[b,c,d,e,f,g,h] from fun a b c d e f g h =>by simp,List.getElem?_append_left (by have:=(List.getElem?_eq_some_iff.1 hu2).1;simp;omega),List.getElem?_cons_succ]
  exact hu2) (by
  unfold zl1
  rw [show ∀ (a:List Ln) (b c d e f g h:Ln),a++[b]++[c]++[d]++[e]++[f]++[g]++[h]=a++[b,c,d,e,f,g,h] from fun a b c d e f g h =>by simp,List.getElem?_append_left (by rw [List.length_cons,hM];have:=(List.getElem?_eq_some_iff.1 hu2).1;omega),List.getElem?_cons_succ,List.getElem?_map,hx]
  rfl)
 obtain ⟨b,d,rfl⟩:=zb4 oj
 exact ⟨b,d,rfl,zaA oj⟩
end Go.Proofs.YtmemedpoaocdkaaGreat
namespace Go.Proofs.YtmemedpoaocdkaaGreat
open Go.RowKit Go.Shelf Go.Maps
set_option linter.unusedVariables false
def zmV (x:Option (Int × Int × Int)):Value := .tuple #[.int .i32 ((x.map (·.2.1)).getD 0),.int .i32 ((x.map (·.2.2)).getD 0),.bool x.isSome]
set_option maxRecDepth 100000 in
set_option maxHeartbeats 4000000 in
theorem zg5 {T:TV} (hO:zap T) (B:Nat) (r:Int) (hr:R32 r) (w:World) (h:BookAt w B T):Calls Tryz.prog 188 #[.pointer (some ⟨B,0,none⟩),.int .i32 r] w fun e w' =>e=.returned (zmV (zbz T r))∧Below w.heap.size w w':=by
 obtain ⟨M,n,c0,hs⟩:=h.pas
 have hl:=zjq hO hs hr
 unfold zmV zqs at *
 generalize ((zbz T r).map (·.2.1)).getD 0=x1 at *
 generalize ((zbz T r).map (·.2.2)).getD 0=x2 at *
 generalize (zbz T r).isSome=ok at *
 have bP:=Blk.new w #[.int .i32 x1,.int .i32 x2] 134
 have q0:=bP.cell 0
 have q1:=bP.cell 1
 have HB:Hz (Below w.heap.size w (w.alloc (.cells #[.int .i32 x1,.int .i32 x2] 134))):=kz ((Below.refl _ w).alloc (Nat.le_refl _) _)
 clear hs h hO hr bP
 go_enter Tryz.func188,Tryz.ntmps188
 go_wp2_with fail
 generalize w.alloc (.cells #[.int .i32 x1,.int .i32 x2] 134)=w1 at *
 go_quiet (fail)
 go_wp2_with fail
 exact bodyPost_ret (v := .tuple #[.int .i32 x1,.int .i32 x2,.bool ok]) (by simp [results,Tryz.results188,go_sem]) rfl ⟨rfl,(oz HB).trans ⟨rfl,rfl,rfl,Nat.le_refl _,fun _ _ =>rfl⟩⟩
set_option maxRecDepth 100000 in
theorem zdy {T:TV} (hO:zap T) (B:Nat) (r:Int) (hr:R32 r) (w:World) (h:BookAt w B T):Calls Tryz.prog 142 #[.pointer (some ⟨B,0,none⟩),.int .i32 r] w fun e w' =>e=.returned (.bool (zbu T r || ze8 T r))∧Below w.heap.size w w':=by
 obtain ⟨M,n,c0,hs⟩:=h.pas
 have hl:=zjq hO hs hr
 rw [zku] at hl
 have hcm:=zen hO r
 unfold zqs at *
 generalize ((zbz T r).map (·.2.1)).getD 0=x1 at *
 generalize ((zbz T r).map (·.2.2)).getD 0=x2 at *
 have hB:Below w.heap.size w (w.alloc (.cells #[.int .i32 x1,.int .i32 x2] 134)):=(Below.refl _ w).alloc (Nat.le_refl _) _
 have HC:=kz (zbW hO B r hr _ (h.below hB))
 have HB:=kz hB
 have HM:=kz hcm
 clear hs h hO hr hB hcm
 generalize ze8 T r=ok at *
 cases ok with
 | true =>
  go_enter Tryz.func142,Tryz.ntmps142
  go_wp2_with fail
  go_ret
  exact ⟨by rw [Bool.or_true];rfl,oz HB⟩
 | false =>
  go_enter Tryz.func142,Tryz.ntmps142
  go_wp2_with fail
  refine (oz HC).mono ?_
  rintro e w1 ⟨rfl,rfl⟩
  clear HC
  go_wp2_with fail
  go_ret
  refine ⟨?_,oz HB⟩
  rw [Bool.or_false, ← Bool.not_not (b:=zbu T r), ← oz HM]
  rfl
set_option maxRecDepth 100000 in
set_option maxHeartbeats 4000000 in
theorem zi8 {T:TV} (hO:zap T) (B:Nat) (r:Int) (hr:R32 r) (w:World) (h:BookAt w B T):Calls Tryz.prog 144 #[.pointer (some ⟨B,0,none⟩),.int .i32 r] w fun e w' =>e=.returned (.bool (zbs T r))∧Below w.heap.size w w':=by
 obtain ⟨M,n,c0,hs⟩:=h.fos
 obtain ⟨a,c,hl,_⟩:=znC (T:=T) hO.t4 hs hr
 rw [zkC] at hl
 generalize (((toP T.fo r).map (fun x =>zai x.2)).getD []).length=ln at *
 have HW:=kz (zbq r w)
 have hwr:=zda r
 have HM:=kz (zdy hO B r hr w h)
 have HD:=kz (fun w1 (hb:Below w.heap.size w w1) =>zcJ hO B r w1 (h.below hb))
 have hP:zbs T r=(zan r && (!zfk T.fo r && (!(zbu T r || ze8 T r) && !drB T r))):=by
  unfold zbs
  cases zan r <;> cases zbu T r <;> cases ze8 T r <;> cases drB T r <;> cases zfk T.fo r <;> rfl
 rw [hP]
 clear hs h hO hr hP
 obtain ⟨wd,hwd⟩:∃ wd,zax r=wd:=⟨_,rfl⟩
 rw [hwd] at HW hwr
 clear hwd
 generalize zan r=b1 at *
 generalize zfk T.fo r=b2 at *
 generalize (zbu T r || ze8 T r)=b3 at *
 generalize drB T r=b4 at *
 cases b1 with
 | false =>
  obtain rfl:wd=0:=by simpa using hwr
  clear hwr
  cases b2 with
  | true =>
   go_enter Tryz.func144,Tryz.ntmps144
   go_wp2_with fail
   refine (oz HW).mono ?_
   rintro e w1 ⟨rfl,rfl⟩
   go_wp2_with fail
   go_ret
   exact ⟨rfl,Below.refl _ _⟩
  | false =>
   go_enter Tryz.func144,Tryz.ntmps144
   go_wp2_with fail
   refine (oz HW).mono ?_
   rintro e w1 ⟨rfl,rfl⟩
   go_wp2_with fail
   go_ret
   exact ⟨rfl,Below.refl _ _⟩
 | true =>
  have hw0:(wd == 0)=false:=hwr
  have hw1:¬ wd=0:=by simpa using hwr
  clear hwr
  cases b2 with
  | true =>
   go_enter Tryz.func144,Tryz.ntmps144
   go_wp2_with fail
   refine (oz HW).mono ?_
   rintro e w1 ⟨rfl,rfl⟩
   go_wp2_with fail
   go_ret
   exact ⟨rfl,Below.refl _ _⟩
  | false =>
   go_enter Tryz.func144,Tryz.ntmps144
   go_wp2_with fail
   refine (oz HW).mono ?_
   rintro e w1 ⟨rfl,rfl⟩
   go_wp2_with fail
   refine (oz HM).mono ?_
   rintro e w2 ⟨rfl,hb2⟩
   have HB2:=kz hb2
   clear hb2 HM
   cases b3 with
   | true =>
    go_wp2_with fail
    go_ret
    exact ⟨rfl,oz HB2⟩
   | false =>
    go_wp2_with fail
    refine (oz HD w2 (oz HB2)).mono ?_
    rintro e w3 ⟨rfl,hb3⟩
    have HB3:=kz ((oz HB2).trans (hb3.mono (oz HB2).size))
    clear hb3 HD
    go_wp2_with fail
    go_ret
    refine ⟨?_,oz HB3⟩
    show Ending.returned (.bool (wd != 0 && !b4))=_
    rw [show (wd != 0)=true by simpa using hw1]
    rfl
structure BkT (w:World) (B:Nat) (T:TV) (a0 a1 a2 a3 a4 a5 a6 a7:Option Addr) (c0 c1 c2 c3 c4 c5 c6 c7:Nat) (us:List Value):Prop where
 k0:w.cell? ⟨B,0,none⟩=some (.slice a0 T.sc.length c0)
 k1:w.cell? ⟨B,1,none⟩=some (.slice a1 T.co.length c1)
 k2:w.cell? ⟨B,2,none⟩=some (.slice a2 T.ma.length c2)
 k3:w.cell? ⟨B,3,none⟩=some (.slice a3 T.pr.length c3)
 k4:w.cell? ⟨B,4,none⟩=some (.slice a4 T.fo.length c4)
 k5:w.cell? ⟨B,5,none⟩=some (.slice a5 T.lk.length c5)
 k6:w.cell? ⟨B,6,none⟩=some (.slice a6 T.dr.length c6)
 k7:w.cell? ⟨B,7,none⟩=some (.slice a7 T.al.length c7)
 lt:B < w.heap.size
 ti:TabIn w T a0 a1 a2 a3 a4 a5 a6 a7 us
theorem BkT.below {w w':World} {B:Nat} {T:TV} {a0 a1 a2 a3 a4 a5 a6 a7:Option Addr} {c0 c1 c2 c3 c4 c5 c6 c7:Nat} {us:List Value} (h:BkT w B T a0 a1 a2 a3 a4 a5 a6 a7 c0 c1 c2 c3 c4 c5 c6 c7 us) (hb:Below w.heap.size w w'):BkT w' B T a0 a1 a2 a3 a4 a5 a6 a7 c0 c1 c2 c3 c4 c5 c6 c7 us:=by
 have k:∀ j,w'.cell? ⟨B,j,none⟩=w.cell? ⟨B,j,none⟩:=fun j =>hb.cell (p:=⟨B,j,none⟩) h.lt
 exact ⟨(k 0).trans h.k0,(k 1).trans h.k1,(k 2).trans h.k2,(k 3).trans h.k3,(k 4).trans h.k4,(k 5).trans h.k5,(k 6).trans h.k6,(k 7).trans h.k7,Nat.lt_of_lt_of_le h.lt hb.size,h.ti.lower hb⟩
theorem BookAt.tabs {w:World} {B:Nat} {T:TV} (h:BookAt w B T):∃ a0 a1 a2 a3 a4 a5 a6 a7 c0 c1 c2 c3 c4 c5 c6 c7 us,BkT w B T a0 a1 a2 a3 a4 a5 a6 a7 c0 c1 c2 c3 c4 c5 c6 c7 us:=by
 obtain ⟨lo,t0,t1,t2,t3,t4,t5,t6,t7,sv,bs,Bc,Bd,Ba,M5,n5,M6,n6,M7,n7,MF,nF,ML,nL,h⟩:=h
 obtain ⟨a0,a1,a2,a3,a4,a5,a6,a7,c0,c1,c2,c3,c4,c5,c6,c7,us,e,ti,_⟩:=h.tb.inn
 injection e with e
 have key:∀ j v,#[t0,t1,t2,t3,t4,t5,t6,t7][j]?=some v→w.cell? ⟨B,j,none⟩=some v:=fun j v hv =>by
  rw [h.bx.cell j, ← hv]
  have hj:j < 8:=(Array.getElem?_eq_some_iff.1 hv).1
  obtain rfl | rfl | rfl | rfl | rfl | rfl | rfl | rfl:j=0∨j=1∨j=2∨j=3∨j=4∨j=5∨j=6∨j=7:=by omega
  all_goals rfl
 rw [e] at key
 exact ⟨a0,a1,a2,a3,a4,a5,a6,a7,c0,c1,c2,c3,c4,c5,c6,c7,us,key 0 _ rfl,key 1 _ rfl,key 2 _ rfl,key 3 _ rfl,key 4 _ rfl,key 5 _ rfl,key 6 _ rfl,key 7 _ rfl,h.bx.lt,ti⟩
end Go.Proofs.YtmemedpoaocdkaaGreat
