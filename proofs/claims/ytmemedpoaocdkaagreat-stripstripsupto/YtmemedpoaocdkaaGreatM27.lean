/- Texts of this claim, one behind the other. -/
import Derived.Test.YtmemedpoaocdkaaGreatM26
namespace Go.Proofs.YtmemedpoaocdkaaGreat
open Go.RowKit Go.Shelf Go.Maps
attribute [local go_sem] Oper.semAt_some
set_option linter.unusedVariables false
set_option maxRecDepth 100000
set_option maxHeartbeats 8000000
def spN (s:ByteArray):List (Nat × Nat):=(zah s).zipIdx
def zaS (T:TV) (s:ByteArray) (x:Nat × Nat):Bool := !drB T (rn s x.1)
def zal (T:TV) (s:ByteArray):List (Nat × Nat):=(spN s).filter (zaS T s)
abbrev zdC (s:ByteArray) (x:Nat × Nat):Array Value:=#[.agg #[.int .i64 x.1,.int .i64 x.2],.int .i32 (rn s x.1)]
structure KpQ (N nb ns:Nat) (W W':World):Prop where
 bl:Below N W W'
 b1:W'.heap[nb]?=W.heap[nb]?
 b2:W'.heap[ns]?=W.heap[ns]?
theorem KpQ.trans {N nb ns:Nat} {A B C:World} (h:KpQ N nb ns A B) (k:KpQ N nb ns B C):KpQ N nb ns A C:=⟨h.bl.trans k.bl,k.b1.trans h.b1,k.b2.trans h.b2⟩
theorem KpQ.put {N nb ns:Nat} (W:World) (l:Nat) (o:Obj) (hN:N≤l) (h1:nb < l) (h2:ns < l):KpQ N nb ns W (W.putObj l o):=⟨zce W hN o,World.putObj_heap_other (by omega),World.putObj_heap_other (by omega)⟩
theorem KpQ.below {N nb ns M:Nat} {W W':World} (h:Below M W W') (hN:N≤M) (h1:nb < M) (h2:ns < M):KpQ N nb ns W W':=⟨h.mono hN,h.block _ h1,h.block _ h2⟩
structure SeQ (wB:World) (B nb ns:Nat) (T:TV) (s:ByteArray) (W:World):Prop where
 bl:Below wB.heap.size wB W
 c1:W.cell? ⟨nb,0,none⟩=some (.pointer (some ⟨B,0,none⟩))
 c2:W.cell? ⟨ns,0,none⟩=some (.string s)
theorem SeQ.kp {wB:World} {B nb ns:Nat} {T:TV} {s:ByteArray} {W W':World} (h:SeQ wB B nb ns T s W) (k:KpQ wB.heap.size nb ns W W'):SeQ wB B nb ns T s W' :=
 ⟨h.bl.trans k.bl,(World.cell?_of_block (show W'.heap[(⟨nb,0,none⟩:Addr).block]?=W.heap[(⟨nb,0,none⟩:Addr).block]? from k.b1)).trans h.c1,(World.cell?_of_block (show W'.heap[(⟨ns,0,none⟩:Addr).block]?=W.heap[(⟨ns,0,none⟩:Addr).block]? from k.b2)).trans h.c2⟩
theorem zcP {α : Type} {p : α→Bool} {l a b:List α} (h:l=a++b):a.filter p <+: l.filter p:=⟨b.filter p,by rw [h,List.filter_append]⟩
theorem zjl (n l nb ns B:Nat) (hn:1≤n) (T:TV) (hO:zav T) (s:ByteArray) (hs:s.size≤maxLen) (J Jx:List (Nat × Nat)→World→Prop) (wB W0:World) (hbk:BookAt wB B T) (hq:SeQ wB B nb ns T s W0) (hN:wB.heap.size≤W0.heap.size) (hJ:Old W0.heap.size J)
  (hY:∀ pre x W1,J pre W1→pre++[x] <+: zal T s→W0.heap.size≤W1.heap.size→YieldAt Fence.wide (n - 1) Tryz.prog l (zdC s x) W1 fun e W' =>Above W0.heap.size W1 W' ∧
   ((e=.returned (.bool true)∧J (pre++[x]) W'∧KpQ wB.heap.size nb ns W1 W')∨(e=.returned (.bool false)∧Jx (pre++[x]) W')))
  (h0:J [] W0) :
  CallsIn Fence.wide n Tryz.prog 45 #[.func (.yield l) #[] #[],.pointer (some ⟨nb,0,none⟩),.pointer (some ⟨ns,0,none⟩)] W0 fun e W' =>(∃ v,e=.returned v) ∧
   ((∃ ys,ys=zal T s∧J ys W')∨(∃ pre,pre <+: zal T s∧Jx pre W')):=by
 unfold maxLen at hs
 have d0:=hq.c1
 have d1:=hq.c2
 have hl1:nb < W0.heap.size:=za5 hq.c1
 have hl2:ns < W0.heap.size:=za5 hq.c2
 have HY:=kz hY
 have HJ:=kz hJ
 have H0:=kz h0
 have HN:=kz hN
 have HQ0:=kz (hq.kp (KpQ.below ((Below.refl W0.heap.size W0).alloc (Nat.le_refl _) (.stringIter s 0)) hN hl1 hl2))
 have HJ0:=kz (hJ _ _ _ h0 ((Below.refl W0.heap.size W0).alloc (Nat.le_refl _) (.stringIter s 0)))
 have HBK:=kz (fun r w1 (h:Below wB.heap.size wB w1) =>zbq hO B r w1 (hbk.below h))
 clear hY hJ h0 hq hN hbk
 refine callsIn_of_wp Tryz.func45 rfl trivial ?_ rfl
 simp only [Tryz.ntmps45,List.size_toArray,List.length_cons,List.length_nil,Nat.reduceAdd,Nat.reduceSub,Array.replicate_succ,Array.replicate_zero,List.push_toArray,List.append_toArray,List.nil_append,List.cons_append]
 gi_wp2
 gi_loopw [4] (fun nv wr => ∃ (pre:List (Nat × Nat)) (m pos f:Nat),nv=.int .i64 m∧m≤pos∧pos≤s.size∧Hz (spN s=pre++(zaj s f pos).zipIdx m)∧s.size≤pos+f∧Hz (wr.heap[W0.heap.size]?=some (.stringIter s pos))∧Hz (SeQ wB B nb ns T s wr)∧Hz (J (pre.filter (zaS T s)) wr))
  (fun _ wr =>s.size - wr.iterPos W0.heap.size)
 case atStart =>
  exact ⟨[],0,0,s.size,rfl,by omega,by omega,kz rfl,by omega,kz (World.iter_heap W0 s 0),HQ0,HJ0⟩
 case round =>
  clear HQ0 HJ0 d0 d1
  obtain ⟨pre,m,pos,f,rfl,hmp,hps,HST,hf,HIT,HQ,HJ1⟩:=hrel
  have hit:=oz HIT
  by_cases hp:pos < s.size
  ·obtain ⟨f,rfl⟩:∃ g,f=g+1:=⟨f - 1,by omega⟩
   have hst:=oz HST
   rw [zar s f pos hp,List.zipIdx_cons] at hst
   have hnx:∀ ty,(Instr.next (.pointer (some ⟨W0.heap.size,0,none⟩)) true ty).run Tryz.prog wr=_:=fun ty =>Lib.run_next_any_at wr W0.heap.size s pos ty hit hp
   have hb1:=zb6 wr W0.heap.size s (pos+(Utf8.decode s pos).2) (Nat.le_refl W0.heap.size)
   have hi1:=Lib.iterAt_heap wr W0.heap.size s pos (pos+(Utf8.decode s pos).2) hit
   have hsz:W0.heap.size < (wr.iterAt W0.heap.size s (pos+(Utf8.decode s pos).2)).heap.size:=(Array.getElem?_eq_some_iff.1 hi1).1
   have HJ2:=kz (oz HJ _ _ _ (oz HJ1) hb1)
   have HQ2:=kz ((oz HQ).kp (KpQ.below hb1 (oz HN) hl1 hl2))
   have HI1:=kz hi1
   have HS:=kz hst
   have d0:=(oz HQ2).c1
   have hm1:(m:Int)+1=((m+1:Nat):Int):=by omega
   have hroom:=zdg s pos hp
   have hwp:=zbv s pos
   have HD:=kz (oz HBK ((Utf8.decode s pos).1:Nat) _ (oz HQ2).bl)
   have HM1:=kz hm1
   clear hb1 hi1 hst hit HJ1 HST HQ hm1
   cases hd:drB T (rn s pos) with
   | true =>
    rw [show drB T (((Utf8.decode s pos).1:Nat):Int)=true from hd] at HD
    have HS2:Hz (spN s=(pre++[(pos,m)])++(zaj s f (pos+wd s pos)).zipIdx (m+1)):=kz (by rw [oz HS];simp)
    have HF:Hz ((pre++[(pos,m)]).filter (zaS T s)=pre.filter (zaS T s)):=kz (by
     rw [List.filter_append,List.filter_cons_of_neg (by unfold zaS;rw [hd];decide),List.filter_nil,List.append_nil])
    clear hd HS
    gi_wp2_with fail
    refine ⟨trivial, ?_⟩
    refine (callsIn_wide.2 (oz HD)).mono ?_
    rintro e W2 ⟨rfl,hb2⟩
    have HJ3:Hz (J ((pre++[(pos,m)]).filter (zaS T s)) W2):=kz (by rw [oz HF];exact oz HJ _ _ _ (oz HJ2) (hb2.mono (by omega)))
    have HQ3:=kz ((oz HQ2).kp (KpQ.below hb2 (by have:=oz HN;omega) (by omega) (by omega)))
    have HI2:Hz (W2.heap[W0.heap.size]?=some (.stringIter s (pos+(Utf8.decode s pos).2))):=kz ((hb2.block _ hsz).trans (oz HI1))
    clear hb2 hnx HJ2 HQ2 HI1 d0 HD
    gi_wp2
    refine ⟨(fun f hf =>by cases hf), ?_⟩
    go_at_K
    gi_wp2
    go_roundw
    case rel =>exact ⟨pre++[(pos,m)],m+1,pos+wd s pos,f,by first | rfl | rw [oz HM1],by omega,by omega,HS2,by omega,HI2,HQ3,HJ3⟩
    case measure =>rw [zaA (oz HI2),zaA (oz HIT)];have:=zbv s pos;simp only [wd] at this;omega
   | false =>
    rw [show drB T (((Utf8.decode s pos).1:Nat):Int)=false from hd] at HD
    have HS2:Hz (spN s=(pre++[(pos,m)])++(zaj s f (pos+wd s pos)).zipIdx (m+1)):=kz (by rw [oz HS];simp)
    have HF:Hz ((pre++[(pos,m)]).filter (zaS T s)=pre.filter (zaS T s)++[(pos,m)]):=kz (by
     rw [List.filter_append,List.filter_cons_of_pos (by unfold zaS;rw [hd];rfl),List.filter_nil])
    have HPX:Hz (pre.filter (zaS T s)++[(pos,m)] <+: zal T s):=kz (by rw [← oz HF];exact zcP (oz HS2))
    clear hd HS
    gi_wp2_with fail
    refine ⟨trivial, ?_⟩
    refine (callsIn_wide.2 (oz HD)).mono ?_
    rintro e W2 ⟨rfl,hb2⟩
    have hj2:=oz HJ _ _ _ (oz HJ2) (hb2.mono (by omega))
    have HQ3:=kz ((oz HQ2).kp (KpQ.below hb2 (by have:=oz HN;omega) (by omega) (by omega)))
    have HI2:Hz (W2.heap[W0.heap.size]?=some (.stringIter s (pos+(Utf8.decode s pos).2))):=kz ((hb2.block _ hsz).trans (oz HI1))
    have hge2:W0.heap.size≤W2.heap.size:=by have:=hb2.size;omega
    obtain ⟨fn,tmps,assign,body,hy,hR⟩:=(oz HY) _ (pos,m) W2 hj2 (oz HPX) hge2
    dsimp only [zdC] at hy
    have HRR:=kz hR
    clear hj2 hb2 hnx hR HJ2 HQ2 HI1 d0 HD
    gi_wp2
    refine (oz HRR).mono ?_
    rintro e W3 ⟨hab,(⟨rfl,hJ3,hk3⟩ | ⟨rfl,hJx3⟩)⟩
    ·have HI3:Hz (W3.heap[W0.heap.size]?=some (.stringIter s (pos+(Utf8.decode s pos).2))):=kz ((hab.same _ (Nat.le_refl _) (Array.getElem?_eq_some_iff.1 (oz HI2)).1).trans (oz HI2))
     have HQ4:=kz ((oz HQ3).kp hk3)
     have HJ3:Hz (J ((pre++[(pos,m)]).filter (zaS T s)) W3):=kz (by rw [oz HF];exact hJ3)
     clear hJ3 hk3 hab hy
     gi_wp2
     go_roundw
     case rel =>exact ⟨pre++[(pos,m)],m+1,pos+wd s pos,f,by first | rfl | rw [oz HM1],by omega,by omega,HS2,by omega,HI3,HQ4,HJ3⟩
     case measure =>rw [zaA (oz HI3),zaA (oz HIT)];have:=zbv s pos;simp only [wd] at this;omega
    ·have HJx3:=kz hJx3
     clear hJx3 hab hy
     gi_wp2
     refine bodyPost_ret (results_none rfl _ _ _) rfl ?_
     exact ⟨⟨_,rfl⟩,.inr ⟨_,oz HPX,oz HJx3⟩⟩
  ·have hnx:∀ ty,(Instr.next (.pointer (some ⟨W0.heap.size,0,none⟩)) true ty).run Tryz.prog wr=_:=fun ty =>Lib.run_next_end_at wr W0.heap.size s pos ty hit hp
   have hst:=oz HST
   rw [zaH s f pos hp,List.zipIdx_nil,List.append_nil] at hst
   have HE:Hz (J (zal T s) wr):=kz (by unfold zal;rw [hst];exact oz HJ1)
   clear hst hit
   gi_wp2
   go_end0
   first
    | exact ⟨⟨_,rfl⟩,.inl ⟨_,rfl,oz HE⟩⟩
    | exact ⟨⟨_,rfl⟩,.inl (oz HE)⟩
theorem zeP (n nb ns B:Nat) (hn:1≤n) (T:TV) (hO:zav T) (s:ByteArray) (hs:s.size≤maxLen) (wB w:World) (hbk:BookAt wB B T) (hq:SeQ wB B nb ns T s w) (hN:wB.heap.size≤w.heap.size) :
  zgW Fence.wide n Tryz.prog 45 #[.pointer (some ⟨nb,0,none⟩),.pointer (some ⟨ns,0,none⟩)] (zdC s) (KpQ wB.heap.size nb ns) (fun ys =>ys=zal T s) (fun pre =>pre <+: zal T s) (fun pre x =>pre++[x] <+: zal T s) w:=fun l J Jx W hW hJ _ hY h0 =>
 zjl n l nb ns B hn T hO s hs J Jx wB W hbk (hq.kp (KpQ.below hW hN (za5 hq.c1) (za5 hq.c2))) (Nat.le_trans hN hW.size) hJ hY h0
theorem zcS (B:Nat) (s:ByteArray) (w:World):Calls Tryz.prog 22 #[.pointer (some ⟨B,0,none⟩),.string s] w fun e w' =>e=.returned (.func (.func 45) #[] #[.pointer (some ⟨w.heap.size,0,none⟩),.pointer (some ⟨w.heap.size+1,0,none⟩)])∧w'=(w.alloc (.cells #[.pointer (some ⟨B,0,none⟩)] 29)).alloc (.cells #[.string s] 9):=by
 go_enter Tryz.func22,Tryz.ntmps22
 go_wp2
 go_ret
 exact ⟨rfl,rfl⟩
attribute [local go_sem] Oper.semAt_some
theorem KpQ.refl {N nb ns:Nat} (W:World):KpQ N nb ns W W:=⟨Below.refl _ _,rfl,rfl⟩
theorem KpQ.set {N nb ns B i:Nat} (W:World) (v:Value) (hN:N≤B) (h1:nb≠B) (h2:ns≠B):KpQ N nb ns W (W.setCell ⟨B,i,none⟩ v):=⟨(Below.refl _ _).setCell (p:=⟨B,i,none⟩) hN v,Below.heap_setCell W ⟨B,i,none⟩ v nb h1,Below.heap_setCell W ⟨B,i,none⟩ v ns h2⟩
theorem zb9 (T:TV) (s:ByteArray):(zal T s).length≤(zah s).length:=by
 unfold zal spN
 exact Nat.le_trans (List.length_filter_le _ _) (by simp)
theorem zfZ {T:TV} {s:ByteArray} {pre:List (Nat × Nat)} (h:pre <+: zal T s):pre.length≤(zah s).length:=Nat.le_trans h.length_le (zb9 T s)
theorem SeQ.new {w W:World} {B:Nat} {T:TV} {s:ByteArray} (h:Below w.heap.size w W) (t1 t2:TypeId):SeQ w B W.heap.size (W.heap.size+1) T s ((W.alloc (.cells #[.pointer (some ⟨B,0,none⟩)] t1)).alloc (.cells #[.string s] t2)):=by
 have b1:=(Blk.new W #[.pointer (some ⟨B,0,none⟩)] t1).alloc (.cells #[.string s] t2)
 have b2:=Blk.new (W.alloc (.cells #[.pointer (some ⟨B,0,none⟩)] t1)) #[.string s] t2
 simp only [World.size_alloc] at b2
 exact ⟨(h.alloc h.size _).alloc (by have:=h.size;simp;omega) _,b1.cell 0,b2.cell 0⟩
def CtI (w:World) (Bn N:Nat) (pre:List (Nat × Nat)) (W:World):Prop := ∃ m:Nat,m+pre.length=N∧Blk W Bn #[.int .i64 m] 3∧Below w.heap.size w W
theorem CtI.old {w:World} {Bn N A:Nat} (h1:Bn < A) (h2:w.heap.size≤A):Old A (CtI w Bn N):=by
 rintro p X Y ⟨m,a,b,c⟩ hb
 exact ⟨m,a,b.below hb h1,c.trans (hb.mono h2)⟩
theorem zif (n:Nat) (hn:4≤n) (T:TV) (hO:zav T) (s:ByteArray) (hs:s.size≤maxLen) (B:Nat) (w:World) (hbk:BookAt w B T) :
  CallsIn Fence.wide n Tryz.prog 19 #[.pointer (some ⟨B,0,none⟩),.string s] w fun e w' =>e=.returned (.int .i64 (((zah s).length - (zal T s).length:Nat):Int))∧Below w.heap.size w w':=by
 have h1:1≤n:=by omega
 have hsl:(zah s).length≤maxLen:=Nat.le_trans (zap s) hs
 have hsn:=zb9 T s
 refine callsIn_of_wp_marks Tryz.func19 rfl trivial ?_ rfl
 simp only [Tryz.ntmps19,List.size_toArray,List.length_cons,List.length_nil,Nat.reduceAdd,Nat.reduceSub,Array.replicate_succ,Array.replicate_zero,List.push_toArray,List.append_toArray,List.nil_append,List.cons_append]
 gi_wp2_with fail
 refine ⟨trivial, ?_⟩
 refine (callsIn_wide.2 (zgJ s hs w)).mono ?_
 rintro e W ⟨rfl,hb⟩
 obtain ⟨Bn,hBn⟩:∃ Bn,Bn=W.heap.size:=⟨_,rfl⟩
 have hx0:Blk (W.alloc (.cells #[.int .i64 (zah s).length] 3)) Bn #[.int .i64 (zah s).length] 3:=by rw [hBn];exact Blk.new W _ _
 have hB1:=hb.alloc hb.size (.cells #[.int .i64 (zah s).length] 3)
 have hz1:(W.alloc (.cells #[.int .i64 (zah s).length] 3)).heap.size=W.heap.size+1:=by simp
 have hwB:w.heap.size≤Bn:=by have:=hb.size;omega
 clear hb
 gi_wp2_with fail
 rw [← hBn]
 generalize W.alloc (.cells #[.int .i64 (zah s).length] 3)=W1 at *
 refine ⟨trivial, ?_⟩
 refine (callsIn_wide.2 (zcS B s W1)).mono ?_
 rintro e w' ⟨rfl,rfl⟩
 have hsq:SeQ w B W1.heap.size (W1.heap.size+1) T s _:=SeQ.new hB1 29 9
 have hx1:=(hx0.alloc (.cells #[.pointer (some ⟨B,0,none⟩)] 29)).alloc (.cells #[.string s] 9)
 have hz2:((W1.alloc (.cells #[.pointer (some ⟨B,0,none⟩)] 29)).alloc (.cells #[.string s] 9)).heap.size=W1.heap.size+2:=by simp
 generalize (W1.alloc (.cells #[.pointer (some ⟨B,0,none⟩)] 29)).alloc (.cells #[.string s] 9)=W2 at *
 gi_wp2
 rename_i K1 hK1
 have hK1':=kz hK1
 clear hK1 hx0 hB1
 have e1:W1.heap.size=Bn+1:=by omega
 rw [← hBn]
 rw [e1] at hsq hz2
 clear hBn hz1 e1
 refine zdu rfl h1 (gf:=45) (lb:=#[.pointer (some ⟨Bn+1,0,none⟩),.pointer (some ⟨Bn+1+1,0,none⟩)]) rfl trivial (enters_of Tryz.func45 (by kernel_rfl) rfl)
  (zeP (n - 1) (Bn+1) (Bn+1+1) B (by omega) T hO s hs w W2 hbk hsq (by omega)) KpQ.trans (fun W l o hl =>KpQ.put W l o (by omega) (by omega) (by omega)) (Below.refl _ _) (fun _ =>rfl)
  (CtI w Bn (zah s).length) (fun _ _ _ =>False) (CtI.old (by omega) (by omega)) (fun _ _ _ _ h _ =>h) ⟨_,by simp,hx1,hsq.bl⟩ ?round ?done ?stop
 case round =>
  rintro pre x W ⟨m,hm,hbn,hbT⟩ hpx hge
  dsimp only [zdC]
  gi_wp2
  refine ⟨Above.refl _ _,KpQ.refl _,⟨m,hm,hbn,hbT⟩, ?_⟩
  intro Wr hgr hsr ⟨m2,hm2,hbn2,hbT2⟩
  have hle:=zfZ hpx
  rw [List.length_append,List.length_singleton] at hle
  obtain ⟨q,rfl⟩:∃ q,m2=q+1:=⟨m2 - 1,by omega⟩
  have n0:=hbn2.cell 0
  have nf:=hbn2.frozen 0
  have hq:((q+1:Nat):Int) - 1=(q:Int):=by omega
  have c1:Blk (Wr.setCell ⟨Bn,0,none⟩ (.int .i64 (q:Int))) Bn #[.int .i64 (q:Int)] 3:=hbn2.set 0 _
  have c2:=hbT2.setCell (p:=⟨Bn,0,none⟩) hwB (.int .i64 (q:Int))
  have c4:Above W2.heap.size Wr (Wr.setCell ⟨Bn,0,none⟩ (.int .i64 (q:Int))):=(Above.refl _ _).set (by omega) _
  have c5:KpQ w.heap.size (Bn+1) (Bn+1+1) Wr (Wr.setCell ⟨Bn,0,none⟩ (.int .i64 (q:Int))):=KpQ.set Wr _ hwB (by omega) (by omega)
  have hqb:(q:Int)+1≤9223372036854775807:=by unfold maxLen at hsl;omega
  have hm3:q+(pre++[x]).length=(zah s).length:=by rw [List.length_append,List.length_singleton];omega
  have HC:=kz (And.intro c1 (And.intro c2 (And.intro c4 (And.intro c5 hm3))))
  clear c1 c2 c4 c5 hm3 hbn hbT hbn2 hbT2 hgr hsr hm hm2 hle hpx hx1 hsq
  gi_wp2
  obtain ⟨c1,c2,c4,c5,hm3⟩:=oz HC
  first
   | exact ⟨c4,c5,q,hm3,c1,c2⟩
   | (rw [hq];exact ⟨c4,c5,q,hm3,c1,c2⟩)
 case done =>
  rintro D xs W3 hD hS ⟨m,hm,hbn,hbT⟩ hdef
  subst hS
  have n0:=hbn.cell 0
  have hme:m=(zah s).length - (zal T s).length:=by omega
  subst hme
  have hwD:w.heap.size≤D:=by omega
  have HB:=kz hbT
  have HD:=kz hdef
  clear hbT hdef hbn hm hx1 hsq
  apply oz hK1'
  gi_wp2
  refine ⟨by simp,.inl ⟨_,_,rfl,run_takeDeferred (oz HD), ?_⟩⟩
  refine ⟨_, ?_,rfl,(oz HB).trans (belowK_b (w:=w) (Nat.le_refl _) W3 D _ _ hwD (oz HD) rfl rfl)⟩
  simp [results,Tryz.f19,go_sem]
 case stop =>
  rintro D c pre W hD hpre h
  exact h.elim
theorem zex (T:TV) (hO:zav T) (s:ByteArray) (hs:s.size≤maxLen) (B:Nat) (w:World) (hbk:BookAt w B T):Calls Tryz.prog 19 #[.pointer (some ⟨B,0,none⟩),.string s] w fun e w' =>e=.returned (.int .i64 (((zah s).length - (zal T s).length:Nat):Int))∧Below w.heap.size w w' :=
 callsIn_wide.1 (zif 4 (Nat.le_refl _) T hO s hs B w hbk)
attribute [local go_sem] Oper.semAt_some
def KpV (N nb ns:Nat) (W W':World):Prop:=KpQ N nb ns W W'∧KeepsWalks W W'
theorem KpV.trans {N nb ns:Nat} {A B C:World} (h:KpV N nb ns A B) (k:KpV N nb ns B C):KpV N nb ns A C:=⟨h.1.trans k.1,h.2.trans k.2⟩
theorem KpV.put {N nb ns:Nat} {w:World} (hN:N≤w.heap.size) (h1:nb < w.heap.size) (h2:ns < w.heap.size) (W:World) (l:Nat) (o o':Obj) (hl:w.heap.size≤l) (h:W.heap[l]?=some o) (_:o.isCells=false) (hw:o.isWalk=false):KpV N nb ns W (W.putObj l o') :=
 ⟨KpQ.put W l o' (by omega) (by omega) (by omega),KeepsWalks.putObj _ h hw⟩
theorem zfl {T:TV} {s:ByteArray} {pre:List (Nat × Nat)} {x:Nat × Nat} (h:pre++[x] <+: zal T s) (hl:(zal T s).length≤(zah s).length):pre.length < s.size:=by
 have h1:=h.length_le
 have h2:=zap s
 rw [List.length_append,List.length_singleton] at h1
 omega
theorem zhR (n l nb ns B:Nat) (hn:1≤n) (T:TV) (hO:zav T) (s:ByteArray) (hs:s.size≤maxLen) (J Jx:List (Nat × Nat)→World→Prop) (wB W0:World) (hbk:BookAt wB B T) (hq:SeQ wB B nb ns T s W0) (hN:wB.heap.size≤W0.heap.size) (hJ:AbidesFrom W0.heap.size J)
  (hY:∀ pre x W1,J pre W1→pre.length < s.size→YieldAt Fence.wide (n - 1) Tryz.prog l (zdC s x) W1 fun e W' =>
   (e=.returned (.bool true)∧J (pre++[x]) W'∧KpV wB.heap.size nb ns W1 W')∨(e=.returned (.bool false)∧Jx (pre++[x]) W'))
  (h0:J [] W0) :
  CallsIn Fence.wide n Tryz.prog 45 #[.func (.yield l) #[] #[],.pointer (some ⟨nb,0,none⟩),.pointer (some ⟨ns,0,none⟩)] W0 fun e W' =>(∃ v,e=.returned v) ∧
   ((∃ ys,ys=zal T s∧J ys W')∨(∃ pre,pre <+: zal T s∧Jx pre W')):=by
 unfold maxLen at hs
 have d0:=hq.c1
 have d1:=hq.c2
 have HSL:=kz (zb9 T s)
 have hl1:nb < W0.heap.size:=za5 hq.c1
 have hl2:ns < W0.heap.size:=za5 hq.c2
 have HY:=kz hY
 have HJ:=kz hJ
 have H0:=kz h0
 have HN:=kz hN
 have HQ0:=kz (hq.kp (KpQ.below ((Below.refl W0.heap.size W0).alloc (Nat.le_refl _) (.stringIter s 0)) hN hl1 hl2))
 have HJ0:=kz (hJ _ _ _ none h0 (World.grownBy_alloc W0 (.stringIter s 0) none) (fun r e =>by cases e))
 have HBK:=kz (fun r w1 (h:Below wB.heap.size wB w1) =>zbq hO B r w1 (hbk.below h))
 clear hY hJ h0 hq hN hbk
 refine callsIn_of_wp Tryz.func45 rfl trivial ?_ rfl
 simp only [Tryz.ntmps45,List.size_toArray,List.length_cons,List.length_nil,Nat.reduceAdd,Nat.reduceSub,Array.replicate_succ,Array.replicate_zero,List.push_toArray,List.append_toArray,List.nil_append,List.cons_append]
 gi_wp2
 gi_loopw [4] (fun nv wr => ∃ (pre:List (Nat × Nat)) (m pos f:Nat),nv=.int .i64 m∧m≤pos∧pos≤s.size∧Hz (spN s=pre++(zaj s f pos).zipIdx m)∧s.size≤pos+f∧Hz (wr.heap[W0.heap.size]?=some (.stringIter s pos))∧Hz (SeQ wB B nb ns T s wr)∧Hz (J (pre.filter (zaS T s)) wr))
  (fun _ wr =>s.size - wr.iterPos W0.heap.size)
 case atStart =>
  exact ⟨[],0,0,s.size,rfl,by omega,by omega,kz rfl,by omega,kz (World.iter_heap W0 s 0),HQ0,HJ0⟩
 case round =>
  clear HQ0 HJ0 d0 d1
  obtain ⟨pre,m,pos,f,rfl,hmp,hps,HST,hf,HIT,HQ,HJ1⟩:=hrel
  have hit:=oz HIT
  by_cases hp:pos < s.size
  ·obtain ⟨f,rfl⟩:∃ g,f=g+1:=⟨f - 1,by omega⟩
   have hst:=oz HST
   rw [zar s f pos hp,List.zipIdx_cons] at hst
   have hnx:∀ ty,(Instr.next (.pointer (some ⟨W0.heap.size,0,none⟩)) true ty).run Tryz.prog wr=_:=fun ty =>Lib.run_next_any_at wr W0.heap.size s pos ty hit hp
   have hb1:=zb6 wr W0.heap.size s (pos+(Utf8.decode s pos).2) (Nat.le_refl W0.heap.size)
   have hi1:=Lib.iterAt_heap wr W0.heap.size s pos (pos+(Utf8.decode s pos).2) hit
   have hsz:W0.heap.size < (wr.iterAt W0.heap.size s (pos+(Utf8.decode s pos).2)).heap.size:=(Array.getElem?_eq_some_iff.1 hi1).1
   have HJ2:=kz (oz HJ _ _ _ _ (oz HJ1) (zee wr W0.heap.size s (pos+(Utf8.decode s pos).2)) (fun r e =>by cases e;exact ⟨Nat.le_refl _,_,hit,rfl⟩))
   have HQ2:=kz ((oz HQ).kp (KpQ.below hb1 (oz HN) hl1 hl2))
   have HI1:=kz hi1
   have HS:=kz hst
   have d0:=(oz HQ2).c1
   have hm1:(m:Int)+1=((m+1:Nat):Int):=by omega
   have hroom:=zdg s pos hp
   have hwp:=zbv s pos
   have HD:=kz (oz HBK ((Utf8.decode s pos).1:Nat) _ (oz HQ2).bl)
   have HM1:=kz hm1
   clear hb1 hi1 hst hit HJ1 HST HQ hm1
   cases hd:drB T (rn s pos) with
   | true =>
    rw [show drB T (((Utf8.decode s pos).1:Nat):Int)=true from hd] at HD
    have HS2:Hz (spN s=(pre++[(pos,m)])++(zaj s f (pos+wd s pos)).zipIdx (m+1)):=kz (by rw [oz HS];simp)
    have HF:Hz ((pre++[(pos,m)]).filter (zaS T s)=pre.filter (zaS T s)):=kz (by
     rw [List.filter_append,List.filter_cons_of_neg (by unfold zaS;rw [hd];decide),List.filter_nil,List.append_nil])
    clear hd HS
    gi_wp2_with fail
    refine ⟨trivial, ?_⟩
    refine (callsIn_wide.2 (oz HD)).mono ?_
    rintro e W2 ⟨rfl,hb2⟩
    have HJ3:Hz (J ((pre++[(pos,m)]).filter (zaS T s)) W2):=kz (by rw [oz HF];exact oz HJ _ _ _ none (oz HJ2) (zbQ hb2) (fun r e =>by cases e))
    have HQ3:=kz ((oz HQ2).kp (KpQ.below hb2 (by have:=oz HN;omega) (by omega) (by omega)))
    have HI2:Hz (W2.heap[W0.heap.size]?=some (.stringIter s (pos+(Utf8.decode s pos).2))):=kz ((hb2.block _ hsz).trans (oz HI1))
    clear hb2 hnx HJ2 HQ2 HI1 d0 HD
    gi_wp2
    refine ⟨(fun f hf =>by cases hf), ?_⟩
    go_at_K
    gi_wp2
    go_roundw
    case rel =>exact ⟨pre++[(pos,m)],m+1,pos+wd s pos,f,by first | rfl | rw [oz HM1],by omega,by omega,HS2,by omega,HI2,HQ3,HJ3⟩
    case measure =>rw [zaA (oz HI2),zaA (oz HIT)];have:=zbv s pos;simp only [wd] at this;omega
   | false =>
    rw [show drB T (((Utf8.decode s pos).1:Nat):Int)=false from hd] at HD
    have HS2:Hz (spN s=(pre++[(pos,m)])++(zaj s f (pos+wd s pos)).zipIdx (m+1)):=kz (by rw [oz HS];simp)
    have HF:Hz ((pre++[(pos,m)]).filter (zaS T s)=pre.filter (zaS T s)++[(pos,m)]):=kz (by
     rw [List.filter_append,List.filter_cons_of_pos (by unfold zaS;rw [hd];rfl),List.filter_nil])
    have HPX:Hz (pre.filter (zaS T s)++[(pos,m)] <+: zal T s):=kz (by rw [← oz HF];exact zcP (oz HS2))
    clear hd HS
    gi_wp2_with fail
    refine ⟨trivial, ?_⟩
    refine (callsIn_wide.2 (oz HD)).mono ?_
    rintro e W2 ⟨rfl,hb2⟩
    have hj2:=oz HJ _ _ _ none (oz HJ2) (zbQ hb2) (fun r e =>by cases e)
    have HQ3:=kz ((oz HQ2).kp (KpQ.below hb2 (by have:=oz HN;omega) (by omega) (by omega)))
    have HI2:Hz (W2.heap[W0.heap.size]?=some (.stringIter s (pos+(Utf8.decode s pos).2))):=kz ((hb2.block _ hsz).trans (oz HI1))
    have hge2:W0.heap.size≤W2.heap.size:=by have:=hb2.size;omega
    obtain ⟨fn,tmps,assign,body,hy,hR⟩:=(oz HY) _ (pos,m) W2 hj2 (zfl (oz HPX) (oz HSL))
    dsimp only [zdC] at hy
    have HRR:=kz hR
    clear hj2 hb2 hnx hR HJ2 HQ2 HI1 d0 HD
    gi_wp2
    refine (oz HRR).mono ?_
    rintro e W3 (⟨rfl,hJ3,hk3⟩ | ⟨rfl,hJx3⟩)
    ·have HI3:Hz (W3.heap[W0.heap.size]?=some (.stringIter s (pos+(Utf8.decode s pos).2))):=kz (hk3.2.same _ _ (oz HI2) rfl)
     have HQ4:=kz ((oz HQ3).kp hk3.1)
     have HJ3:Hz (J ((pre++[(pos,m)]).filter (zaS T s)) W3):=kz (by rw [oz HF];exact hJ3)
     clear hJ3 hk3 hy
     gi_wp2
     go_roundw
     case rel =>exact ⟨pre++[(pos,m)],m+1,pos+wd s pos,f,by first | rfl | rw [oz HM1],by omega,by omega,HS2,by omega,HI3,HQ4,HJ3⟩
     case measure =>rw [zaA (oz HI3),zaA (oz HIT)];have:=zbv s pos;simp only [wd] at this;omega
    ·have HJx3:=kz hJx3
     clear hJx3 hy
     gi_wp2
     refine bodyPost_ret (results_none rfl _ _ _) rfl ?_
     exact ⟨⟨_,rfl⟩,.inr ⟨_,oz HPX,oz HJx3⟩⟩
  ·have hnx:∀ ty,(Instr.next (.pointer (some ⟨W0.heap.size,0,none⟩)) true ty).run Tryz.prog wr=_:=fun ty =>Lib.run_next_end_at wr W0.heap.size s pos ty hit hp
   have hst:=oz HST
   rw [zaH s f pos hp,List.zipIdx_nil,List.append_nil] at hst
   have HE:Hz (J (zal T s) wr):=kz (by unfold zal;rw [hst];exact oz HJ1)
   clear hst hit
   gi_wp2
   go_end0
   first
    | exact ⟨⟨_,rfl⟩,.inl ⟨_,rfl,oz HE⟩⟩
    | exact ⟨⟨_,rfl⟩,.inl (oz HE)⟩
theorem zfk (n nb ns B:Nat) (hn:1≤n) (T:TV) (hO:zav T) (s:ByteArray) (hs:s.size≤maxLen) (wB w:World) (hbk:BookAt wB B T) (hq:SeQ wB B nb ns T s w) (hN:wB.heap.size≤w.heap.size) :
  SeqStopsK Fence.wide n Tryz.prog 45 #[.pointer (some ⟨nb,0,none⟩),.pointer (some ⟨ns,0,none⟩)] (zdC s) (KpV wB.heap.size nb ns) (fun ys =>ys=zal T s) (fun pre =>pre <+: zal T s) s.size w:=fun l J Jx W hW hJ _ hY h0 =>
 zhR n l nb ns B hn T hO s hs J Jx wB W hbk (hq.kp (KpQ.below hW hN (za5 hq.c1) (za5 hq.c2))) (Nat.le_trans hN hW.size) hJ hY h0
attribute [local go_sem] Oper.semAt_some
abbrev zjZ (zs:List Int):List Value:=zs.map (Value.int .i32)
theorem zhK (c l:Nat) (hl:l=0) (w:World):Calls Tryz.prog 43 #[.slice none l c] w fun e w' =>e=.returned (zcj [])∧w'=w:=by
 subst hl
 have kc:=run_convert_runes_nil (P:=Tryz.prog) w 88 9 21 0 c Tryz.underlying88 Tryz.underlying21 Tryz.underlying9
 have HKC:=kz kc
 clear kc
 go_enter Tryz.func43,Tryz.ntmps43
 go_wp2
 go_loop [8] (fun i =>i=.int .i64 0) (fun i =>0)
 case atStart =>rfl
 case round =>
  obtain rfl:=hrel
  have kc:=oz HKC
  go_wp2
  go_ret2
  exact ⟨rfl,rfl⟩
theorem zhJ {W:World} {lo:Nat} {v:Value} {zs:List Int} (h:W.ownsRow lo 21 1 v zs.length (zjZ zs)) (hz:zs.length≤9223372036854775807):Calls Tryz.prog 43 #[v] W fun e w' =>e=.returned (zcj zs)∧w'=W:=by
 have hc:=fun g =>h.cells (g:=g)
 rcases h.2 with ⟨rfl,h0⟩ | ⟨g,cap,cur,rfl,_,hgb,_⟩
 ·obtain rfl:zs=[]:=List.length_eq_zero_iff.1 h0
  exact zhK 0 0 rfl W
 ·refine zkc g 0 cap zs hz W (fun j hj =>?_)
  have:=hc g rfl j (.int .i32 (zs.getD j 0)) (by rw [List.getElem?_map,List.getD,List.getElem?_eq_getElem hj];rfl)
  rw [show ((⟨g,0,none⟩:Addr).add j)=⟨g,0+j,none⟩ by unfold Addr.add;split <;> simp_all] at this
  exact this
theorem zih {W w1:World} {N lo B:Nat} {t e:TypeId} {size:Nat} {v v':Value} {k m:Nat} {xs ys:List Value} {tmp:Obj}
  (hv:Boxed W B t v) (hte:t≠e) (hrow:W.ownsRow lo e size v k xs) (hlo:lo≤W.heap.size) (hNB:N≤B) (hNl:N≤lo)
  (hown':w1.ownsRow lo e size v' m ys) (hgrow:(W.alloc tmp).grownBy w1 v.ownBlock) :
  Boxed w1 B t v ∧ Boxed (w1.setCell ⟨B, 0, none⟩ v') B t v' ∧ (w1.setCell ⟨B, 0, none⟩ v').ownsRow lo e size v' m ys ∧ KeepsOthers W (w1.setCell ⟨B, 0, none⟩ v') ∧ Below N W (w1.setCell ⟨B, 0, none⟩ v') ∧
    ∀ j,j < lo→j≠B→(w1.setCell ⟨B,0,none⟩ v').heap[j]?=W.heap[j]?:=by
 have hv1:Boxed w1 B t v:=(hv.alloc tmp).kept hgrow (hv.not_row hte hrow)
 have hlt:=hrow.lt
 refine ⟨hv1,hv1.set v',hown'.kept (grownBy_setCell' w1 B v') (.inr (hv1.not_row hte hown').symm), ?_, ?_, ?_⟩
 ·refine ((KeepsOthers.alloc W tmp).trans (KeepsOthers.of_grownBy hgrow fun j o ej hj =>?_)).trans (KeepsOthers.setCell _ _ _)
  rcases (hrow.alloc tmp).2 with ⟨rfl,_⟩ | ⟨g,cap,cur,rfl,_,hgb,_⟩
  ·simp [Value.ownBlock] at ej
  ·obtain rfl:g=j:=by simpa [Value.ownBlock] using ej
   rw [hgb] at hj;cases hj;rfl
 ·exact (((Below.refl N W).alloc (by omega) tmp).grown hgrow (by simp;omega) fun j ej =>by have:=(hlt j ej).1;omega).setCell (p:=⟨B,0,none⟩) hNB v'
 ·intro j hj hne
  refine (Below.heap_setCell w1 ⟨B,0,none⟩ v' j hne).trans ((hgrow.block j (by simp;omega) (fun e' =>?_)).trans (Below.heap_alloc _ _ _ (by omega)))
  have:=(hlt j e'.symm).1
  omega
abbrev zhd (s:ByteArray) (l:List (Nat × Nat)):List Int:=l.map fun x =>(rn s x.1:Int)
def StI (w:World) (Bl lo:Nat) (s:ByteArray) (pre:List (Nat × Nat)) (W:World):Prop := ∃ v,Boxed W Bl 88 v∧W.ownsRow lo 21 1 v (zhd s pre).length (zjZ (zhd s pre))∧Below w.heap.size w W∧lo≤W.heap.size
theorem StI.own {w:World} {Bl lo B:Nat} {s:ByteArray} (h1:w.heap.size≤B):OwnFrom B (StI w Bl lo s):=by
 rintro p X Y row ⟨v,hv,hr,hb,hlo⟩ hg hrow
 refine ⟨v,hv.kept hg (fun e' =>?_),hr.kept hg ?_,hb.grown hg hb.size (fun j e =>by have:=(hrow j e).1;omega),Nat.le_trans hlo hg.size⟩
 ·obtain ⟨_,o,ho,hc⟩:=hrow Bl e'.symm
  rw [show X.heap[Bl]?=_ from hv] at ho;cases ho;cases hc
 ·rcases hr.2 with ⟨rfl,_⟩ | ⟨g,cap,cur,rfl,_,hgb,_⟩
  ·exact .inl rfl
  ·refine .inr fun e' =>?_
   obtain ⟨_,o,ho,hc⟩:=hrow g (by simpa [Value.ownBlock] using e'.symm)
   rw [hgb] at ho;cases ho;cases hc
def zbw (T:TV) (s:ByteArray):ByteArray:=runesBytes (zhd s (zal T s))
theorem zjP:(Tryz.prog.info? 21).map (fun i =>(i.zero,i.size,i.bytes))=some (some (.int .i32 0),1,4):=by kernel_rfl
theorem zfm (T:TV) (s:ByteArray):zcj (zhd s (zal T s))=.tuple #[.string (zbw T s),.int .i64 0]:=by
 unfold zcj
 rw [if_pos]
 ·rfl
 ·unfold zfa
  rw [List.all_eq_true]
  intro z hz
  obtain ⟨x,_,rfl⟩:=List.mem_map.1 hz
  simpa using zgn s x.1
theorem zhL (n:Nat) (hn:4≤n) (T:TV) (hO:zav T) (s:ByteArray) (hs:s.size≤1000000000000) (B:Nat) (w:World) (hbk:BookAt w B T) :
  CallsIn Fence.wide n Tryz.prog 18 #[.pointer (some ⟨B,0,none⟩),.string s] w fun e w' =>e=.returned (.string (zbw T s))∧Below w.heap.size w w':=by
 have h1:1≤n:=by omega
 have hsm:s.size≤maxLen:=by unfold maxLen;omega
 have hsl:(zah s).length≤s.size:=zap s
 have hsn:=zb9 T s
 refine callsIn_of_wp_marks Tryz.func18 rfl trivial ?_ rfl
 simp only [Tryz.ntmps18,List.size_toArray,List.length_cons,List.length_nil,Nat.reduceAdd,Nat.reduceSub,Array.replicate_succ,Array.replicate_zero,List.push_toArray,List.append_toArray,List.nil_append,List.cons_append]
 obtain ⟨Bl,hBl⟩:∃ Bl,Bl=w.heap.size:=⟨_,rfl⟩
 have hx0:Boxed (w.alloc (.cells #[.slice none 0 0] 88)) Bl 88 (.slice none 0 0):=by rw [hBl];exact Boxed.new w _ _
 have hB1:=(Below.refl w.heap.size w).alloc (Nat.le_refl _) (.cells #[.slice none 0 0] 88)
 have hz1:(w.alloc (.cells #[.slice none 0 0] 88)).heap.size=w.heap.size+1:=by simp
 gi_wp2_with fail
 rw [← hBl]
 generalize w.alloc (.cells #[.slice none 0 0] 88)=W1 at *
 refine ⟨trivial, ?_⟩
 refine (callsIn_wide.2 (zcS B s W1)).mono ?_
 rintro e w' ⟨rfl,rfl⟩
 have hsq:SeQ w B W1.heap.size (W1.heap.size+1) T s _:=SeQ.new hB1 29 9
 have hx1:=(hx0.alloc (.cells #[.pointer (some ⟨B,0,none⟩)] 29)).alloc (.cells #[.string s] 9)
 have hz2:((W1.alloc (.cells #[.pointer (some ⟨B,0,none⟩)] 29)).alloc (.cells #[.string s] 9)).heap.size=W1.heap.size+2:=by simp
 generalize (W1.alloc (.cells #[.pointer (some ⟨B,0,none⟩)] 29)).alloc (.cells #[.string s] 9)=W2 at *
 have e1:W1.heap.size=Bl+1:=by omega
 have e2:W2.heap.size=Bl+1+2:=by omega
 rw [e1] at hsq
 gi_wp2
 rename_i K1 hK1
 have hK1':=kz hK1
 have i0:=zjP
 obtain ⟨i0,hi,hz0,hz1',hz2'⟩:=info_parts i0
 have HIN:=kz (And.intro hi (And.intro hz0 (And.intro hz1' hz2')))
 subst hBl
 have h3:w.heap.size+3≤W2.heap.size:=by omega
 clear hK1 hx0 hB1 hi hz0 hz1' hz2' hz1 hz2 e1 e2
 refine wpIn_rangeFunc_ownH rfl h1 (gf:=45) (lb:=#[.pointer (some ⟨w.heap.size+1,0,none⟩),.pointer (some ⟨w.heap.size+1+1,0,none⟩)]) rfl trivial (enters_of Tryz.func45 (by kernel_rfl) rfl)
  (zfk (n - 1) (w.heap.size+1) (w.heap.size+1+1) B (by omega) T hO s hsm w W2 hbk hsq (by omega)) KpV.trans (KpV.put (by omega) (by omega) (by omega)) (Below.refl _ _) (fun _ =>rfl)
  (StI w w.heap.size W2.heap.size s) (fun _ _ _ =>False) (StI.own (by omega)) (fun _ _ _ _ _ h _ _ =>h) ⟨_,hx1,World.ownsRow_nil _ _ _ _,hsq.bl,Nat.le_refl _⟩
  (fun x a' W =>a' = { tmps:=#[.pointer (some ⟨B,0,none⟩),.string s,undef,undef,.string ⟨#[]⟩,.pointer (some ⟨w.heap.size,0,none⟩),undef,.int .i32 (rn s x.1),undef,undef,.pointer (some ⟨B,0,none⟩),.string s,.func (.func 45) #[] #[.pointer (some ⟨w.heap.size+1,0,none⟩),.pointer (some ⟨w.heap.size+1+1,0,none⟩)],.agg #[.int .i64 x.1,.int .i64 x.2],.int .i32 (rn s x.1),undef,undef,undef,undef,undef,undef,undef,undef,undef,undef],defers := [] })
  (fun x a' _ _ _ _ h _ _ =>h) ?assign ?body ?done ?stop
 case assign =>
  rintro l pre x W K hI hK
  gi_wp2
  exact hK _ _ ((KeepsOthers.refl _).from _) ⟨KpQ.refl _,KeepsWalks.refl _⟩ hI rfl
 case body =>
  rintro l pre x a' W hl ⟨r,hr⟩ ⟨v,hbx,hrow,hB,hlo⟩ rfl hlt
  have n0:=hbx.cell
  have nf:=hbx.frozen
  obtain ⟨hi,hz0,hz1',hz2'⟩:=oz HIN
  have hk:(zhd s pre).length=pre.length:=by simp
  have HR:=kz hrow
  have HBX:=kz hbx
  have HBB:=kz hB
  have n1:=(hbx.alloc (.cells #[.int .i32 (rn s x.1)] 21)).cell
  clear hx1 hsq hrow hbx hB
  gi_wp2_with (gi_at_builtin;refine wpListIn_append_own _ rfl _ _ 88 rfl W2.heap.size 21 i0 (.int .i32 0) 1 4 Tryz.underlying88 hi hz0 hz1' hz2' rfl (by decide) v _ _ rfl ((oz HR).alloc _) ⟨W.heap.size,0,none⟩ 1 1 [.int .i32 (rn s x.1)] rfl rfl ?c1 ?c2 ?c3 ?c4 ?c5 ?_)
  case c1 =>
   intro j u hj
   match j,hj with
   | 0,hj =>simp at hj;subst hj;simp [Addr.add]
  case c2 =>intro u hu;simp at hu;subst hu;rfl
  case c3 =>unfold maxLen;omega
  case c4 =>omega
  case c5 =>simp;omega
  intro v' w1 hown' hgrow _
  obtain ⟨q1,q2,q3,q4,q5,q6⟩:=zih (N:=w.heap.size) (oz HBX) (by decide) (oz HR) hlo (by omega) (by omega) hown' hgrow
  obtain ⟨g,cap,rfl⟩:=ownsRow_succ hown'
  have n2:=q1.cell
  have nf2:=q1.frozen
  have HE:=kz (And.intro q2 (And.intro q3 (And.intro q4 (And.intro q5 q6))))
  clear hown' hgrow q1 q2 q3 q4 q5 q6
  gi_wp2
  obtain ⟨q2,q3,q4,q5,q6⟩:=oz HE
  refine ⟨q4.from _,⟨⟨q5,q6 _ (by omega) (by omega),q6 _ (by omega) (by omega)⟩,q4.walks⟩,_,q2, ?_,(oz HBB).trans q5,Nat.le_trans hlo q4.size⟩
  simpa [zhd,zjZ] using q3
 case done =>
  rintro D xs W3 hD hS ⟨v,hbx,hrow,hB,hlo⟩ hdef
  subst hS
  have n0:=hbx.cell
  have hwD:w.heap.size≤D:=by omega
  have HB:=kz hB
  have HD:=kz hdef
  have HT:=kz (zhJ hrow (by simp;omega))
  rw [zfm] at HT
  clear hB hdef hbx hrow hx1 hsq
  apply oz hK1'
  gi_wp2_with fail
  refine ⟨trivial, ?_⟩
  refine (callsIn_wide.2 (oz HT)).mono ?_
  rintro e w4 ⟨rfl,rfl⟩
  gi_wp2
  refine ⟨by simp,.inl ⟨_,_,rfl,run_takeDeferred (oz HD), ?_⟩⟩
  refine ⟨_, ?_,rfl,(oz HB).trans (belowK_b (w:=w) (Nat.le_refl _) _ D _ _ hwD (oz HD) rfl rfl)⟩
  simp [results,Tryz.f18,go_sem]
 case stop =>
  rintro D c pre W hD hpre h
  exact h.elim
theorem zcM (T:TV) (hO:zav T) (s:ByteArray) (hs:s.size≤1000000000000) (B:Nat) (w:World) (hbk:BookAt w B T):Calls Tryz.prog 18 #[.pointer (some ⟨B,0,none⟩),.string s] w fun e w' =>e=.returned (.string (zbw T s))∧Below w.heap.size w w' :=
 callsIn_wide.1 (zhL 4 (Nat.le_refl _) T hO s hs B w hbk)
attribute [local go_sem] Oper.semAt_some
def zgY (T:TV) (s:ByteArray) (i:Nat):Bool:=zdm s i || drB T (rn s i)
def zfG (T:TV) (s:ByteArray):Option (Nat × Nat):=(spN s).find? fun x =>zgY T s x.1
def zeh (o:Option (Nat × Nat)):Value:=match o with
 | some x =>.tuple #[.agg #[.int .i64 x.1,.int .i64 x.2],.bool true]
 | none =>.tuple #[.agg #[.int .i64 0,.int .i64 0],.bool false]
theorem zgD {T:TV} {s:ByteArray} (h:∀ i ∈ zah s,zgY T s i=false):zfG T s=none:=by
 unfold zfG spN
 rw [List.find?_eq_none]
 intro x hx
 obtain ⟨_,_,h3⟩:=List.mem_zipIdx hx
 have:=h x.1 (by rw [h3];exact List.getElem_mem _)
 simp [this]
theorem zeG {T:TV} {s:ByteArray} {q r:List Nat} {x:Nat} (he:zah s=q++[x]++r) (h:∀ i ∈ q,zgY T s i=false) (hx:zgY T s x=true):zfG T s=some (x,q.length):=by
 unfold zfG spN
 rw [he,List.append_assoc,List.zipIdx_append,List.find?_append]
 have h0:q.zipIdx.find? (fun x =>zgY T s x.1)=none:=by
  rw [List.find?_eq_none]
  intro y hy
  obtain ⟨_,_,h3⟩:=List.mem_zipIdx hy
  have:=h y.1 (by rw [h3];exact List.getElem_mem _)
  simp [this]
 rw [h0]
 simp [List.zipIdx_cons,hx]
structure FiI (w:World) (T:TV) (B:Nat) (s:ByteArray) (pre:List Nat) (W:World):Prop where
 no:∀ i ∈ pre,zgY T s i=false
 b:Blk W w.heap.size #[.pointer (some ⟨B,0,none⟩)] 29
 p:Blk W (w.heap.size+1) #[.int .i64 0,.int .i64 0] 40
 o:Blk W (w.heap.size+1+1) #[.bool false] 4
 n:Blk W (w.heap.size+1+1+1) #[.int .i64 pre.length] 3
 t:Below w.heap.size w W
theorem FiI.below {w:World} {T:TV} {B A:Nat} {s:ByteArray} {pre:List Nat} {X Y:World} (h:FiI w T B s pre X) (hb:Below A X Y) (hA:w.heap.size+4≤A):FiI w T B s pre Y :=
 ⟨h.no,h.b.below hb (by omega),h.p.below hb (by omega),h.o.below hb (by omega),h.n.below hb (by omega),h.t.trans (hb.mono (by omega))⟩
structure FiX (w:World) (T:TV) (s:ByteArray) (c:Code) (pre:List Nat) (W:World):Prop where
 c:c=.ret
 f:∃ q x,pre=q++[x]∧(∀ i ∈ q,zgY T s i=false)∧zgY T s x=true∧Blk W (w.heap.size+1) #[.int .i64 x,.int .i64 q.length] 40
 o:Blk W (w.heap.size+1+1) #[.bool true] 4
 t:Below w.heap.size w W
theorem FiX.below {w:World} {T:TV} {A:Nat} {s:ByteArray} {c:Code} {pre:List Nat} {X Y:World} (h:FiX w T s c pre X) (hb:Below A X Y) (hA:w.heap.size+4≤A):FiX w T s c pre Y:=by
 obtain ⟨q,x,h1,h2,h3,h4⟩:=h.f
 exact ⟨h.c,⟨q,x,h1,h2,h3,h4.below hb (by omega)⟩,h.o.below hb (by omega),h.t.trans (hb.mono (by omega))⟩
theorem FiI.hit {w:World} {T:TV} {B:Nat} {s:ByteArray} {pre:List Nat} {X:World} {x:Nat} (h:FiI w T B s pre X) (hx:zgY T s x=true):FiX w T s .ret (pre++[x]) (((X.setCell ⟨w.heap.size+1,0,none⟩ (.int .i64 x)).setCell ⟨w.heap.size+1,1,none⟩ (.int .i64 pre.length)).setCell ⟨w.heap.size+1+1,0,none⟩ (.bool true)) :=
 ⟨rfl,⟨pre,x,rfl,h.no,hx,((h.p.set 0 _).set 1 _).other (by omega) _⟩,((h.o.other (by omega) _).other (by omega) _).set 0 _,
  ((h.t.setCell (p:=⟨w.heap.size+1,0,none⟩) (by simp) _).setCell (p:=⟨w.heap.size+1,1,none⟩) (by simp) _).setCell (p:=⟨w.heap.size+1+1,0,none⟩) (by simp;omega) _⟩
theorem FiI.step {w:World} {T:TV} {B:Nat} {s:ByteArray} {pre:List Nat} {X:World} {x:Nat} (h:FiI w T B s pre X) (hx:zgY T s x=false):FiI w T B s (pre++[x]) (X.setCell ⟨w.heap.size+1+1+1,0,none⟩ (.int .i64 ((pre.length:Int)+1))):=by
 refine ⟨fun i hi =>?_,h.b.other (by omega) _,h.p.other (by omega) _,h.o.other (by omega) _, ?_,h.t.setCell (p:=⟨w.heap.size+1+1+1,0,none⟩) (by simp;omega) _⟩
 ·rcases List.mem_append.1 hi with h1 | h1
  ·exact h.no i h1
  ·rw [List.mem_singleton.1 h1];exact hx
 ·rw [show (((pre++[x]).length:Nat):Int)=(pre.length:Int)+1 by simp]
  exact h.n.set 0 _
theorem zgV {A b:Nat} {X Y:World} (h:Above A X Y) (h1:b+1 < A) (u1 u2 u3:Value):Above A X (((Y.setCell ⟨b,0,none⟩ u1).setCell ⟨b,1,none⟩ u2).setCell ⟨b+1,0,none⟩ u3):=((h.set (by omega) _).set (by omega) _).set h1 _
theorem znb (n:Nat) (hn:4≤n) (T:TV) (hO:zav T) (s:ByteArray) (hs:s.size≤1000000000000) (B:Nat) (w:World) (hbk:BookAt w B T) :
  CallsIn Fence.wide n Tryz.prog 14 #[.pointer (some ⟨B,0,none⟩),.string s] w fun e w' =>e=.returned (zeh (zfG T s))∧Below w.heap.size w w':=by
 have h1:1≤n:=by omega
 have hsm:s.size≤maxLen:=by unfold maxLen;omega
 have hsl:(zah s).length≤s.size:=zap s
 refine callsIn_of_wp_marks Tryz.func14 rfl trivial ?_ rfl
 simp only [Tryz.ntmps14,List.size_toArray,List.length_cons,List.length_nil,Nat.reduceAdd,Nat.reduceSub,Array.replicate_succ,Array.replicate_zero,List.push_toArray,List.append_toArray,List.nil_append,List.cons_append]
 gi_wp2_with (refine ⟨trivial, ?_⟩;gi_at_call 41;refine (callsIn_wide.2 (ziu _ _)).mono ?_;rintro e w' ⟨rfl,rfl⟩)
 have hDR:=kz (fun (r:Int) (w1:World) (h:Below w.heap.size w w1) =>zbq hO B r w1 (hbk.below h))
 obtain ⟨W0,hW0⟩:∃ W0,W0=((((w.alloc (.cells #[.pointer (some ⟨B,0,none⟩)] 29)).alloc (.cells #[.int .i64 0,.int .i64 0] 40)).alloc (.cells #[.bool false] 4)).alloc (.cells #[.int .i64 0] 3)).alloc (.cells #[.string s] 9):=⟨_,rfl⟩
 have hI:FiI w T B s [] W0:=by
  rw [hW0]
  have b0:=(((Blk.new w #[.pointer (some ⟨B,0,none⟩)] 29).alloc (.cells #[.int .i64 0,.int .i64 0] 40)).alloc (.cells #[.bool false] 4)).alloc (.cells #[.int .i64 0] 3)
  have b1:=((Blk.new (w.alloc (.cells #[.pointer (some ⟨B,0,none⟩)] 29)) #[.int .i64 0,.int .i64 0] 40).alloc (.cells #[.bool false] 4)).alloc (.cells #[.int .i64 0] 3)
  have b2:=(Blk.new ((w.alloc (.cells #[.pointer (some ⟨B,0,none⟩)] 29)).alloc (.cells #[.int .i64 0,.int .i64 0] 40)) #[.bool false] 4).alloc (.cells #[.int .i64 0] 3)
  have b3:=Blk.new (((w.alloc (.cells #[.pointer (some ⟨B,0,none⟩)] 29)).alloc (.cells #[.int .i64 0,.int .i64 0] 40)).alloc (.cells #[.bool false] 4)) #[.int .i64 0] 3
  simp only [World.size_alloc] at b1 b2 b3
  exact ⟨(fun i hi =>by cases hi),b0.alloc _,b1.alloc _,b2.alloc _,b3.alloc _,((((((Below.refl w.heap.size w).alloc (Nat.le_refl _) _).alloc (by simp) _).alloc (by simp;omega) _).alloc (by simp;omega) _).alloc (by simp;omega) _)⟩
 have hS:W0.cell? ⟨w.heap.size+1+1+1+1,0,none⟩=some (.string s):=by
  have b4:=Blk.new ((((w.alloc (.cells #[.pointer (some ⟨B,0,none⟩)] 29)).alloc (.cells #[.int .i64 0,.int .i64 0] 40)).alloc (.cells #[.bool false] 4)).alloc (.cells #[.int .i64 0] 3)) #[.string s] 9
  simp only [World.size_alloc] at b4
  rw [hW0]
  exact b4.cell 0
 have hsz:W0.heap.size=w.heap.size+5:=by rw [hW0];simp
 rw [← hW0]
 clear hW0 hbk
 have hge0:w.heap.size+5≤W0.heap.size:=by omega
 clear hsz
 refine zdu rfl h1 (gf:=63) (lb:=#[.pointer (some ⟨w.heap.size+1+1+1+1,0,none⟩)]) rfl trivial (enters_of Tryz.func63 (by kernel_rfl) rfl)
  (zkM (n - 1) (w.heap.size+1+1+1+1) (by omega) s hsm W0 hS) zrq (fun W l o hl =>zrr W l o (by omega)) (Below.refl _ _) (fun _ =>rfl)
  (FiI w T B s) (FiX w T s) (fun p X Y h hb =>h.below hb (by omega)) (fun c p X Y h hb =>h.below hb (by omega)) hI ?round ?done ?stop
 case round =>
  rintro pre x W hIW hpx hge
  have hal:=(Below.refl W.heap.size W).alloc (Nat.le_refl _) (.cells (zge (zhM s x)) 70)
  have hX:=Blk.new W (zge (zhM s x)) 70
  have hpl:pre.length < s.size:=by
   have h2:=hpx.length_le
   rw [List.length_append,List.length_singleton] at h2
   omega
  dsimp only [zjY]
  gi_wp2
  refine ⟨Above.below hal,hal.block _ (by omega),hIW.below hal (by omega), ?_⟩
  intro Wr hgr hsr hIr
  have hXr:=hX.kept hgr (by simp;omega)
  obtain ⟨PX,hPX⟩:∃ PX,PX=W.heap.size:=⟨_,rfl⟩
  rw [← hPX] at hXr
  rw [← hPX]
  have hsr2:Wr.heap.size=PX+1:=by rw [hsr,hPX];simp
  have hge2:W0.heap.size+2≤PX:=by omega
  clear hPX hsr hgr hX hal hge hIW
  have x2:Wr.cell? ⟨PX,2,none⟩=some (.bool (zdm s x)):=hXr.cell 2
  have x0:Wr.cell? ⟨PX,0,none⟩=some (.int .i32 (rn s x)):=hXr.cell 0
  have c0:=hIr.b.cell 0
  have p0:=hIr.p.cell 0
  have p1:=hIr.p.cell 1
  have o0:=hIr.o.cell 0
  have n0:=hIr.n.cell 0
  have pf:=hIr.p.frozen
  have of:=hIr.o.frozen
  have nf:=hIr.n.frozen
  have HI:=kz hIr
  have hdep:Fence.wide.depth.isSome=true→1≤n - 1 - 1:=fun _ =>by omega
  cases hb:zdm s x with
  | true =>
   rw [hb] at x2
   have HX:=kz ((oz HI).hit (x:=x) (by unfold zgY;rw [hb];rfl))
   clear hb hIr hXr
   gi_wp2
   refine ⟨trivial, ?_⟩
   go_at_K
   gi_wp2
   exact ⟨zgV (Above.refl _ _) (by omega) _ _ _,oz HX⟩
  | false =>
   rw [hb] at x2
   have HDD:=kz (oz hDR (rn s x) Wr hIr.t)
   cases hd:drB T (rn s x) with
   | true =>
    have hhit:zgY T s x=true:=by unfold zgY;rw [hd,Bool.or_true]
    rw [hd] at HDD
    have HHIT:=kz hhit
    clear hb hd hhit hIr hXr
    gi_wp2_with fail
    refine ⟨trivial,fun _ =>by omega, ?_⟩
    refine (CallsIn.inRound _ (callsIn_wide.2 (oz HDD))).mono ?_
    rintro e W3 ⟨rfl,hb3⟩
    have hI3:=(oz HI).below hb3 (by omega)
    have hA3:=kz (Above.below (B:=W0.heap.size) hb3)
    have HX:=kz (hI3.hit (oz HHIT))
    have n0:=hI3.n.cell 0
    have p0:=hI3.p.cell 0
    have p1:=hI3.p.cell 1
    have o0:=hI3.o.cell 0
    have pf:=hI3.p.frozen
    have of:=hI3.o.frozen
    clear hI3 hb3 HDD x2 x0 c0
    gi_wp2
    exact ⟨zgV (oz hA3) (by omega) _ _ _,oz HX⟩
   | false =>
    have hhit:zgY T s x=false:=by unfold zgY;rw [hb,hd];rfl
    rw [hd] at HDD
    have HHIT:=kz hhit
    clear hb hd hhit hIr hXr
    gi_wp2_with fail
    refine ⟨trivial,fun _ =>by omega, ?_⟩
    refine (CallsIn.inRound _ (callsIn_wide.2 (oz HDD))).mono ?_
    rintro e W3 ⟨rfl,hb3⟩
    have hI3:=(oz HI).below hb3 (by omega)
    have hA3:=kz (Above.below (B:=W0.heap.size) hb3)
    have hK3:=kz (hb3.block (w.heap.size+1+1+1+1) (by omega))
    have HX:=kz (hI3.step (oz HHIT))
    have n0:=hI3.n.cell 0
    have nf:=hI3.n.frozen
    clear hI3 hb3 HDD x2 x0 c0
    gi_wp2
    exact ⟨(oz hA3).set (by omega) _,(Below.heap_setCell _ _ _ _ (by show _≠w.heap.size+1+1+1;omega)).trans (oz hK3),oz HX⟩
 case done =>
  rintro D ys W hD hys hIW hK
  have HV:=kz (zgD (T:=T) (s:=s) (by rw [← hys];exact hIW.no))
  have k2:=hIW.p
  have k3:=hIW.o
  have hB:=hIW.t
  have c0:=k2.cell 0
  have c1:=k2.cell 1
  have c3:=k3.cell 0
  have f0:=k2.frozen
  have f3:=k3.frozen
  clear hys hIW hI hS
  gi_wp2
  have hK':=(((KeepsOthers.setCell W ⟨w.heap.size+1,0,none⟩ (.int .i64 0)).trans (KeepsOthers.setCell _ ⟨w.heap.size+1,1,none⟩ (.int .i64 0))).trans (KeepsOthers.setCell _ ⟨w.heap.size+1+1,0,none⟩ (.bool false))).same D _ hK rfl
  have k2':=Blk.other (i:=0) ((k2.set 0 (.int .i64 0)).set 1 (.int .i64 0)) (B':=w.heap.size+1+1) (by omega) (.bool false)
  have k3':=((k3.other (B':=w.heap.size+1) (i:=0) (by omega) (.int .i64 0)).other (B':=w.heap.size+1) (i:=1) (by omega) (.int .i64 0)).set 0 (.bool false)
  have hB':=((hB.setCell (p:=⟨w.heap.size+1,0,none⟩) (by simp) (.int .i64 0)).setCell (p:=⟨w.heap.size+1,1,none⟩) (by simp) (.int .i64 0)).setCell (p:=⟨w.heap.size+1+1,0,none⟩) (by simp;omega) (.bool false)
  clear hK k2 k3 hB c0 c1 c3 f0 f3
  refine ⟨by simp,.inl ⟨_,_,rfl,run_takeDeferred hK', ?_⟩⟩
  have q2:=k2'.put (.deferred Option.none) hK' rfl
  have q3:=k3'.put (.deferred Option.none) hK' rfl
  have c0:=q2.cell 0
  have c1:=q2.cell 1
  have c3:=q3.cell 0
  refine ⟨.tuple #[.agg #[.int .i64 0,.int .i64 0],.bool false], ?_,by rw [oz HV];rfl,hB'.trans (belowK_b (w:=w) (Nat.le_refl _) _ D _ _ (by omega) hK' rfl rfl)⟩
  simp [results,Tryz.f14,go_sem,c0,c1,c3]
 case stop =>
  rintro D c pre W hD hpre hX hK
  obtain ⟨rfl,⟨q,x,rfl,hq,hx,k2⟩,k3,hB⟩:=hX
  obtain ⟨r,hr⟩:=hpre
  have HV:=kz (zeG (T:=T) hr.symm hq hx)
  clear hr hx hq hI hS
  gi_wp2
  refine ⟨by simp,.inl ⟨_,_,rfl,run_takeDeferred hK, ?_⟩⟩
  have q2:=k2.put (.deferred Option.none) hK rfl
  have q3:=k3.put (.deferred Option.none) hK rfl
  have c0:=q2.cell 0
  have c1:=q2.cell 1
  have c3:=q3.cell 0
  refine ⟨.tuple #[.agg #[.int .i64 x,.int .i64 q.length],.bool true], ?_,by rw [oz HV];rfl,hB.trans (belowK_b (w:=w) (Nat.le_refl _) _ D _ _ (by omega) hK rfl rfl)⟩
  simp [results,Tryz.f14,go_sem,c0,c1,c3]
theorem zlh (T:TV) (hO:zav T) (s:ByteArray) (hs:s.size≤1000000000000) (B:Nat) (w:World) (hbk:BookAt w B T):Calls Tryz.prog 14 #[.pointer (some ⟨B,0,none⟩),.string s] w fun e w' =>e=.returned (zeh (zfG T s))∧Below w.heap.size w w' :=
 callsIn_wide.1 (znb 4 (Nat.le_refl _) T hO s hs B w hbk)
end Go.Proofs.YtmemedpoaocdkaaGreat
