/- Texts of this claim, one behind the other. -/
import Derived.Test.YtmemedpoaocdkaaGreatM26
namespace Go.Proofs.YtmemedpoaocdkaaGreat
set_option linter.unusedVariables false
section
open Go.RowKit Go.Shelf Go.Maps
attribute [local go_sem] Oper.semAt_some
set_option maxRecDepth 100000
set_option maxHeartbeats 8000000
def spN (s:ByteArray):List (Nat × Nat):=(zah s).zipIdx
def zaS (T:TV) (s:ByteArray) (x:Nat × Nat):Bool := !drB T (rn s x.1)
def zal (T:TV) (s:ByteArray):List (Nat × Nat):=(spN s).filter (zaS T s)
abbrev zdC (s:ByteArray) (x:Nat × Nat):Array Value:=#[.agg #[.int .i64 x.1,.int .i64 x.2],.int .i32 (rn s x.1)]
structure KpQ (N nb ns:Nat) (W W':World):Prop where
 bl:Below N W W'
 b1:W'.heap[nb]?=W.heap[nb]?
 b2:W'.heap[ns]?=W.heap[ns]?
theorem KpQ.trans {N nb ns:Nat} {A B C:World} (h:KpQ N nb ns A B) (k:KpQ N nb ns B C):KpQ N nb ns A C:=⟨h.bl.trans k.bl,k.b1.trans h.b1,k.b2.trans h.b2⟩
theorem KpQ.put {N nb ns:Nat} (W:World) (l:Nat) (o:Obj) (hN:N≤l) (h1:nb < l) (h2:ns < l):KpQ N nb ns W (W.putObj l o):=⟨zce W hN o,World.putObj_heap_other (by omega),World.putObj_heap_other (by omega)⟩
theorem KpQ.below {N nb ns M:Nat} {W W':World} (h:Below M W W') (hN:N≤M) (h1:nb < M) (h2:ns < M):KpQ N nb ns W W':=⟨h.mono hN,h.block _ h1,h.block _ h2⟩
structure SeQ (wB:World) (B nb ns:Nat) (T:TV) (s:ByteArray) (W:World):Prop where
 bl:Below wB.heap.size wB W
 c1:W.cell? ⟨nb,0,none⟩=some (.pointer (some ⟨B,0,none⟩))
 c2:W.cell? ⟨ns,0,none⟩=some (.string s)
theorem SeQ.kp {wB:World} {B nb ns:Nat} {T:TV} {s:ByteArray} {W W':World} (h:SeQ wB B nb ns T s W) (k:KpQ wB.heap.size nb ns W W'):SeQ wB B nb ns T s W' :=
 ⟨h.bl.trans k.bl,(World.cell?_of_block (show W'.heap[(⟨nb,0,none⟩:Addr).block]?=W.heap[(⟨nb,0,none⟩:Addr).block]? from k.b1)).trans h.c1,(World.cell?_of_block (show W'.heap[(⟨ns,0,none⟩:Addr).block]?=W.heap[(⟨ns,0,none⟩:Addr).block]? from k.b2)).trans h.c2⟩
theorem zcP {α : Type} {p : α→Bool} {l a b:List α} (h:l=a++b):a.filter p <+: l.filter p:=⟨b.filter p,by rw [h,List.filter_append]⟩
theorem zjl (n l nb ns B:Nat) (hn:1≤n) (T:TV) (hO:zav T) (s:ByteArray) (hs:s.size≤maxLen) (J Jx:List (Nat × Nat)→World→Prop) (wB W0:World) (hbk:BookAt wB B T) (hq:SeQ wB B nb ns T s W0) (hN:wB.heap.size≤W0.heap.size) (hJ:Old W0.heap.size J)
  (hY:∀ pre x W1,J pre W1→pre++[x] <+: zal T s→W0.heap.size≤W1.heap.size→YieldAt Fence.wide (n - 1) Tryz.prog l (zdC s x) W1 fun e W' =>Above W0.heap.size W1 W' ∧
   ((e=.returned (.bool true)∧J (pre++[x]) W'∧KpQ wB.heap.size nb ns W1 W')∨(e=.returned (.bool false)∧Jx (pre++[x]) W')))
  (h0:J [] W0) :
  CallsIn Fence.wide n Tryz.prog 45 #[.func (.yield l) #[] #[],.pointer (some ⟨nb,0,none⟩),.pointer (some ⟨ns,0,none⟩)] W0 fun e W' =>(∃ v,e=.returned v) ∧
   ((∃ ys,ys=zal T s∧J ys W')∨(∃ pre,pre <+: zal T s∧Jx pre W')):=by
 unfold maxLen at hs
 have d0:=hq.c1
 have d1:=hq.c2
 have hl1:nb < W0.heap.size:=za5 hq.c1
 have hl2:ns < W0.heap.size:=za5 hq.c2
 have HY:=kz hY
 have HJ:=kz hJ
 have H0:=kz h0
 have HN:=kz hN
 have HQ0:=kz (hq.kp (KpQ.below ((Below.refl W0.heap.size W0).alloc (Nat.le_refl _) (.stringIter s 0)) hN hl1 hl2))
 have HJ0:=kz (hJ _ _ _ h0 ((Below.refl W0.heap.size W0).alloc (Nat.le_refl _) (.stringIter s 0)))
 have HBK:=kz (fun r w1 (h:Below wB.heap.size wB w1) =>zbq hO B r w1 (hbk.below h))
 clear hY hJ h0 hq hN hbk
 refine callsIn_of_wp Tryz.func45 rfl trivial ?_ rfl
 simp only [Tryz.ntmps45,List.size_toArray,List.length_cons,List.length_nil,Nat.reduceAdd,Nat.reduceSub,Array.replicate_succ,Array.replicate_zero,List.push_toArray,List.append_toArray,List.nil_append,List.cons_append]
 gi_wp2
 gi_loopw [4] (fun nv wr => ∃ (pre:List (Nat × Nat)) (m pos f:Nat),nv=.int .i64 m∧m≤pos∧pos≤s.size∧Hz (spN s=pre++(zaj s f pos).zipIdx m)∧s.size≤pos+f∧Hz (wr.heap[W0.heap.size]?=some (.stringIter s pos))∧Hz (SeQ wB B nb ns T s wr)∧Hz (J (pre.filter (zaS T s)) wr))
  (fun _ wr =>s.size - wr.iterPos W0.heap.size)
 case atStart =>
  exact ⟨[],0,0,s.size,rfl,by omega,by omega,kz rfl,by omega,kz (World.iter_heap W0 s 0),HQ0,HJ0⟩
 case round =>
  clear HQ0 HJ0 d0 d1
  obtain ⟨pre,m,pos,f,rfl,hmp,hps,HST,hf,HIT,HQ,HJ1⟩:=hrel
  have hit:=oz HIT
  by_cases hp:pos < s.size
  ·obtain ⟨f,rfl⟩:∃ g,f=g+1:=⟨f - 1,by omega⟩
   have hst:=oz HST
   rw [zar s f pos hp,List.zipIdx_cons] at hst
   have hnx:∀ ty,(Instr.next (.pointer (some ⟨W0.heap.size,0,none⟩)) true ty).run Tryz.prog wr=_:=fun ty =>Lib.run_next_any_at wr W0.heap.size s pos ty hit hp
   have hb1:=zb6 wr W0.heap.size s (pos+(Utf8.decode s pos).2) (Nat.le_refl W0.heap.size)
   have hi1:=Lib.iterAt_heap wr W0.heap.size s pos (pos+(Utf8.decode s pos).2) hit
   have hsz:W0.heap.size < (wr.iterAt W0.heap.size s (pos+(Utf8.decode s pos).2)).heap.size:=(Array.getElem?_eq_some_iff.1 hi1).1
   have HJ2:=kz (oz HJ _ _ _ (oz HJ1) hb1)
   have HQ2:=kz ((oz HQ).kp (KpQ.below hb1 (oz HN) hl1 hl2))
   have HI1:=kz hi1
   have HS:=kz hst
   have d0:=(oz HQ2).c1
   have hm1:(m:Int)+1=((m+1:Nat):Int):=by omega
   have hroom:=zdg s pos hp
   have hwp:=zbv s pos
   have HD:=kz (oz HBK ((Utf8.decode s pos).1:Nat) _ (oz HQ2).bl)
   have HM1:=kz hm1
   clear hb1 hi1 hst hit HJ1 HST HQ hm1
   cases hd:drB T (rn s pos) with
   | true =>
    rw [show drB T (((Utf8.decode s pos).1:Nat):Int)=true from hd] at HD
    have HS2:Hz (spN s=(pre++[(pos,m)])++(zaj s f (pos+wd s pos)).zipIdx (m+1)):=kz (by rw [oz HS];simp)
    have HF:Hz ((pre++[(pos,m)]).filter (zaS T s)=pre.filter (zaS T s)):=kz (by
     rw [List.filter_append,List.filter_cons_of_neg (by unfold zaS;rw [hd];decide),List.filter_nil,List.append_nil])
    clear hd HS
    gi_wp2_with fail
    refine ⟨trivial, ?_⟩
    refine (callsIn_wide.2 (oz HD)).mono ?_
    rintro e W2 ⟨rfl,hb2⟩
    have HJ3:Hz (J ((pre++[(pos,m)]).filter (zaS T s)) W2):=kz (by rw [oz HF];exact oz HJ _ _ _ (oz HJ2) (hb2.mono (by omega)))
    have HQ3:=kz ((oz HQ2).kp (KpQ.below hb2 (by have:=oz HN;omega) (by omega) (by omega)))
    have HI2:Hz (W2.heap[W0.heap.size]?=some (.stringIter s (pos+(Utf8.decode s pos).2))):=kz ((hb2.block _ hsz).trans (oz HI1))
    clear hb2 hnx HJ2 HQ2 HI1 d0 HD
    gi_wp2
    refine ⟨(fun f hf =>by cases hf), ?_⟩
    go_at_K
    gi_wp2
    go_roundw
    case rel =>exact ⟨pre++[(pos,m)],m+1,pos+wd s pos,f,by first | rfl | rw [oz HM1],by omega,by omega,HS2,by omega,HI2,HQ3,HJ3⟩
    case measure =>rw [zaA (oz HI2),zaA (oz HIT)];have:=zbv s pos;simp only [wd] at this;omega
   | false =>
    rw [show drB T (((Utf8.decode s pos).1:Nat):Int)=false from hd] at HD
    have HS2:Hz (spN s=(pre++[(pos,m)])++(zaj s f (pos+wd s pos)).zipIdx (m+1)):=kz (by rw [oz HS];simp)
    have HF:Hz ((pre++[(pos,m)]).filter (zaS T s)=pre.filter (zaS T s)++[(pos,m)]):=kz (by
     rw [List.filter_append,List.filter_cons_of_pos (by unfold zaS;rw [hd];rfl),List.filter_nil])
    have HPX:Hz (pre.filter (zaS T s)++[(pos,m)] <+: zal T s):=kz (by rw [← oz HF];exact zcP (oz HS2))
    clear hd HS
    gi_wp2_with fail
    refine ⟨trivial, ?_⟩
    refine (callsIn_wide.2 (oz HD)).mono ?_
    rintro e W2 ⟨rfl,hb2⟩
    have hj2:=oz HJ _ _ _ (oz HJ2) (hb2.mono (by omega))
    have HQ3:=kz ((oz HQ2).kp (KpQ.below hb2 (by have:=oz HN;omega) (by omega) (by omega)))
    have HI2:Hz (W2.heap[W0.heap.size]?=some (.stringIter s (pos+(Utf8.decode s pos).2))):=kz ((hb2.block _ hsz).trans (oz HI1))
    have hge2:W0.heap.size≤W2.heap.size:=by have:=hb2.size;omega
    obtain ⟨fn,tmps,assign,body,hy,hR⟩:=(oz HY) _ (pos,m) W2 hj2 (oz HPX) hge2
    dsimp only [zdC] at hy
    have HRR:=kz hR
    clear hj2 hb2 hnx hR HJ2 HQ2 HI1 d0 HD
    gi_wp2
    refine (oz HRR).mono ?_
    rintro e W3 ⟨hab,(⟨rfl,hJ3,hk3⟩ | ⟨rfl,hJx3⟩)⟩
    ·have HI3:Hz (W3.heap[W0.heap.size]?=some (.stringIter s (pos+(Utf8.decode s pos).2))):=kz ((hab.same _ (Nat.le_refl _) (Array.getElem?_eq_some_iff.1 (oz HI2)).1).trans (oz HI2))
     have HQ4:=kz ((oz HQ3).kp hk3)
     have HJ3:Hz (J ((pre++[(pos,m)]).filter (zaS T s)) W3):=kz (by rw [oz HF];exact hJ3)
     clear hJ3 hk3 hab hy
     gi_wp2
     go_roundw
     case rel =>exact ⟨pre++[(pos,m)],m+1,pos+wd s pos,f,by first | rfl | rw [oz HM1],by omega,by omega,HS2,by omega,HI3,HQ4,HJ3⟩
     case measure =>rw [zaA (oz HI3),zaA (oz HIT)];have:=zbv s pos;simp only [wd] at this;omega
    ·have HJx3:=kz hJx3
     clear hJx3 hab hy
     gi_wp2
     refine bodyPost_ret (results_none rfl _ _ _) rfl ?_
     exact ⟨⟨_,rfl⟩,.inr ⟨_,oz HPX,oz HJx3⟩⟩
  ·have hnx:∀ ty,(Instr.next (.pointer (some ⟨W0.heap.size,0,none⟩)) true ty).run Tryz.prog wr=_:=fun ty =>Lib.run_next_end_at wr W0.heap.size s pos ty hit hp
   have hst:=oz HST
   rw [zaH s f pos hp,List.zipIdx_nil,List.append_nil] at hst
   have HE:Hz (J (zal T s) wr):=kz (by unfold zal;rw [hst];exact oz HJ1)
   clear hst hit
   gi_wp2
   go_end0
   first
    | exact ⟨⟨_,rfl⟩,.inl ⟨_,rfl,oz HE⟩⟩
    | exact ⟨⟨_,rfl⟩,.inl (oz HE)⟩
theorem zeP (n nb ns B:Nat) (hn:1≤n) (T:TV) (hO:zav T) (s:ByteArray) (hs:s.size≤maxLen) (wB w:World) (hbk:BookAt wB B T) (hq:SeQ wB B nb ns T s w) (hN:wB.heap.size≤w.heap.size) :
  zgW Fence.wide n Tryz.prog 45 #[.pointer (some ⟨nb,0,none⟩),.pointer (some ⟨ns,0,none⟩)] (zdC s) (KpQ wB.heap.size nb ns) (fun ys =>ys=zal T s) (fun pre =>pre <+: zal T s) (fun pre x =>pre++[x] <+: zal T s) w:=fun l J Jx W hW hJ _ hY h0 =>
 zjl n l nb ns B hn T hO s hs J Jx wB W hbk (hq.kp (KpQ.below hW hN (za5 hq.c1) (za5 hq.c2))) (Nat.le_trans hN hW.size) hJ hY h0
theorem zcS (B:Nat) (s:ByteArray) (w:World):Calls Tryz.prog 22 #[.pointer (some ⟨B,0,none⟩),.string s] w fun e w' =>e=.returned (.func (.func 45) #[] #[.pointer (some ⟨w.heap.size,0,none⟩),.pointer (some ⟨w.heap.size+1,0,none⟩)])∧w'=(w.alloc (.cells #[.pointer (some ⟨B,0,none⟩)] 29)).alloc (.cells #[.string s] 9):=by
 go_enter Tryz.func22,Tryz.ntmps22
 go_wp2
 go_ret
 exact ⟨rfl,rfl⟩
attribute [local go_sem] Oper.semAt_some
set_option maxRecDepth 100000
set_option maxHeartbeats 8000000
theorem KpQ.refl {N nb ns:Nat} (W:World):KpQ N nb ns W W:=⟨Below.refl _ _,rfl,rfl⟩
theorem KpQ.set {N nb ns B i:Nat} (W:World) (v:Value) (hN:N≤B) (h1:nb≠B) (h2:ns≠B):KpQ N nb ns W (W.setCell ⟨B,i,none⟩ v):=⟨(Below.refl _ _).setCell (p:=⟨B,i,none⟩) hN v,Below.heap_setCell W ⟨B,i,none⟩ v nb h1,Below.heap_setCell W ⟨B,i,none⟩ v ns h2⟩
theorem zb9 (T:TV) (s:ByteArray):(zal T s).length≤(zah s).length:=by
 unfold zal spN
 exact Nat.le_trans (List.length_filter_le _ _) (by simp)
theorem zfZ {T:TV} {s:ByteArray} {pre:List (Nat × Nat)} (h:pre <+: zal T s):pre.length≤(zah s).length:=Nat.le_trans h.length_le (zb9 T s)
theorem SeQ.new {w W:World} {B:Nat} {T:TV} {s:ByteArray} (h:Below w.heap.size w W) (t1 t2:TypeId):SeQ w B W.heap.size (W.heap.size+1) T s ((W.alloc (.cells #[.pointer (some ⟨B,0,none⟩)] t1)).alloc (.cells #[.string s] t2)):=by
 have b1:=(Blk.new W #[.pointer (some ⟨B,0,none⟩)] t1).alloc (.cells #[.string s] t2)
 have b2:=Blk.new (W.alloc (.cells #[.pointer (some ⟨B,0,none⟩)] t1)) #[.string s] t2
 simp only [World.size_alloc] at b2
 exact ⟨(h.alloc h.size _).alloc (by have:=h.size;simp;omega) _,b1.cell 0,b2.cell 0⟩
def CtI (w:World) (Bn N:Nat) (pre:List (Nat × Nat)) (W:World):Prop := ∃ m:Nat,m+pre.length=N∧Blk W Bn #[.int .i64 m] 3∧Below w.heap.size w W
theorem CtI.old {w:World} {Bn N A:Nat} (h1:Bn < A) (h2:w.heap.size≤A):Old A (CtI w Bn N):=by
 rintro p X Y ⟨m,a,b,c⟩ hb
 exact ⟨m,a,b.below hb h1,c.trans (hb.mono h2)⟩
theorem zif (n:Nat) (hn:4≤n) (T:TV) (hO:zav T) (s:ByteArray) (hs:s.size≤maxLen) (B:Nat) (w:World) (hbk:BookAt w B T) :
  CallsIn Fence.wide n Tryz.prog 19 #[.pointer (some ⟨B,0,none⟩),.string s] w fun e w' =>e=.returned (.int .i64 (((zah s).length - (zal T s).length:Nat):Int))∧Below w.heap.size w w':=by
 have h1:1≤n:=by omega
 have hsl:(zah s).length≤maxLen:=Nat.le_trans (zap s) hs
 have hsn:=zb9 T s
 refine callsIn_of_wp_marks Tryz.func19 rfl trivial ?_ rfl
 simp only [Tryz.ntmps19,List.size_toArray,List.length_cons,List.length_nil,Nat.reduceAdd,Nat.reduceSub,Array.replicate_succ,Array.replicate_zero,List.push_toArray,List.append_toArray,List.nil_append,List.cons_append]
 gi_wp2_with fail
 refine ⟨trivial, ?_⟩
 refine (callsIn_wide.2 (zgJ s hs w)).mono ?_
 rintro e W ⟨rfl,hb⟩
 obtain ⟨Bn,hBn⟩:∃ Bn,Bn=W.heap.size:=⟨_,rfl⟩
 have hx0:Blk (W.alloc (.cells #[.int .i64 (zah s).length] 3)) Bn #[.int .i64 (zah s).length] 3:=by rw [hBn];exact Blk.new W _ _
 have hB1:=hb.alloc hb.size (.cells #[.int .i64 (zah s).length] 3)
 have hz1:(W.alloc (.cells #[.int .i64 (zah s).length] 3)).heap.size=W.heap.size+1:=by simp
 have hwB:w.heap.size≤Bn:=by have:=hb.size;omega
 clear hb
 gi_wp2_with fail
 rw [← hBn]
 generalize W.alloc (.cells #[.int .i64 (zah s).length] 3)=W1 at *
 refine ⟨trivial, ?_⟩
 refine (callsIn_wide.2 (zcS B s W1)).mono ?_
 rintro e w' ⟨rfl,rfl⟩
 have hsq:SeQ w B W1.heap.size (W1.heap.size+1) T s _:=SeQ.new hB1 29 9
 have hx1:=(hx0.alloc (.cells #[.pointer (some ⟨B,0,none⟩)] 29)).alloc (.cells #[.string s] 9)
 have hz2:((W1.alloc (.cells #[.pointer (some ⟨B,0,none⟩)] 29)).alloc (.cells #[.string s] 9)).heap.size=W1.heap.size+2:=by simp
 generalize (W1.alloc (.cells #[.pointer (some ⟨B,0,none⟩)] 29)).alloc (.cells #[.string s] 9)=W2 at *
 gi_wp2
 rename_i K1 hK1
 have hK1':=kz hK1
 clear hK1 hx0 hB1
 have e1:W1.heap.size=Bn+1:=by omega
 rw [← hBn]
 rw [e1] at hsq hz2
 clear hBn hz1 e1
 refine zdu rfl h1 (gf:=45) (lb:=#[.pointer (some ⟨Bn+1,0,none⟩),.pointer (some ⟨Bn+1+1,0,none⟩)]) rfl trivial (enters_of Tryz.func45 (by kernel_rfl) rfl)
  (zeP (n - 1) (Bn+1) (Bn+1+1) B (by omega) T hO s hs w W2 hbk hsq (by omega)) KpQ.trans (fun W l o hl =>KpQ.put W l o (by omega) (by omega) (by omega)) (Below.refl _ _) (fun _ =>rfl)
  (CtI w Bn (zah s).length) (fun _ _ _ =>False) (CtI.old (by omega) (by omega)) (fun _ _ _ _ h _ =>h) ⟨_,by simp,hx1,hsq.bl⟩ ?round ?done ?stop
 case round =>
  rintro pre x W ⟨m,hm,hbn,hbT⟩ hpx hge
  dsimp only [zdC]
  gi_wp2
  refine ⟨Above.refl _ _,KpQ.refl _,⟨m,hm,hbn,hbT⟩, ?_⟩
  intro Wr hgr hsr ⟨m2,hm2,hbn2,hbT2⟩
  have hle:=zfZ hpx
  rw [List.length_append,List.length_singleton] at hle
  obtain ⟨q,rfl⟩:∃ q,m2=q+1:=⟨m2 - 1,by omega⟩
  have n0:=hbn2.cell 0
  have nf:=hbn2.frozen 0
  have hq:((q+1:Nat):Int) - 1=(q:Int):=by omega
  have c1:Blk (Wr.setCell ⟨Bn,0,none⟩ (.int .i64 (q:Int))) Bn #[.int .i64 (q:Int)] 3:=hbn2.set 0 _
  have c2:=hbT2.setCell (p:=⟨Bn,0,none⟩) hwB (.int .i64 (q:Int))
  have c4:Above W2.heap.size Wr (Wr.setCell ⟨Bn,0,none⟩ (.int .i64 (q:Int))):=(Above.refl _ _).set (by omega) _
  have c5:KpQ w.heap.size (Bn+1) (Bn+1+1) Wr (Wr.setCell ⟨Bn,0,none⟩ (.int .i64 (q:Int))):=KpQ.set Wr _ hwB (by omega) (by omega)
  have hqb:(q:Int)+1≤9223372036854775807:=by unfold maxLen at hsl;omega
  have hm3:q+(pre++[x]).length=(zah s).length:=by rw [List.length_append,List.length_singleton];omega
  have HC:=kz (And.intro c1 (And.intro c2 (And.intro c4 (And.intro c5 hm3))))
  clear c1 c2 c4 c5 hm3 hbn hbT hbn2 hbT2 hgr hsr hm hm2 hle hpx hx1 hsq
  gi_wp2
  obtain ⟨c1,c2,c4,c5,hm3⟩:=oz HC
  first
   | exact ⟨c4,c5,q,hm3,c1,c2⟩
   | (rw [hq];exact ⟨c4,c5,q,hm3,c1,c2⟩)
 case done =>
  rintro D xs W3 hD hS ⟨m,hm,hbn,hbT⟩ hdef
  subst hS
  have n0:=hbn.cell 0
  have hme:m=(zah s).length - (zal T s).length:=by omega
  subst hme
  have hwD:w.heap.size≤D:=by omega
  have HB:=kz hbT
  have HD:=kz hdef
  clear hbT hdef hbn hm hx1 hsq
  apply oz hK1'
  gi_wp2
  refine ⟨by simp,.inl ⟨_,_,rfl,run_takeDeferred (oz HD), ?_⟩⟩
  refine ⟨_, ?_,rfl,(oz HB).trans (belowK_b (w:=w) (Nat.le_refl _) W3 D _ _ hwD (oz HD) rfl rfl)⟩
  simp [results,Tryz.f19,go_sem]
 case stop =>
  rintro D c pre W hD hpre h
  exact h.elim
theorem zex (T:TV) (hO:zav T) (s:ByteArray) (hs:s.size≤maxLen) (B:Nat) (w:World) (hbk:BookAt w B T):Calls Tryz.prog 19 #[.pointer (some ⟨B,0,none⟩),.string s] w fun e w' =>e=.returned (.int .i64 (((zah s).length - (zal T s).length:Nat):Int))∧Below w.heap.size w w' :=
 callsIn_wide.1 (zif 4 (Nat.le_refl _) T hO s hs B w hbk)
attribute [local go_sem] Oper.semAt_some
set_option maxRecDepth 100000
set_option maxHeartbeats 8000000
def KpV (N nb ns:Nat) (W W':World):Prop:=KpQ N nb ns W W'∧KeepsWalks W W'
theorem KpV.trans {N nb ns:Nat} {A B C:World} (h:KpV N nb ns A B) (k:KpV N nb ns B C):KpV N nb ns A C:=⟨h.1.trans k.1,h.2.trans k.2⟩
theorem KpV.put {N nb ns:Nat} {w:World} (hN:N≤w.heap.size) (h1:nb < w.heap.size) (h2:ns < w.heap.size) (W:World) (l:Nat) (o o':Obj) (hl:w.heap.size≤l) (h:W.heap[l]?=some o) (_:o.isCells=false) (hw:o.isWalk=false):KpV N nb ns W (W.putObj l o') :=
 ⟨KpQ.put W l o' (by omega) (by omega) (by omega),KeepsWalks.putObj _ h hw⟩
theorem zfl {T:TV} {s:ByteArray} {pre:List (Nat × Nat)} {x:Nat × Nat} (h:pre++[x] <+: zal T s) (hl:(zal T s).length≤(zah s).length):pre.length < s.size:=by
 have h1:=h.length_le
 have h2:=zap s
 rw [List.length_append,List.length_singleton] at h1
 omega
theorem zhR (n l nb ns B:Nat) (hn:1≤n) (T:TV) (hO:zav T) (s:ByteArray) (hs:s.size≤maxLen) (J Jx:List (Nat × Nat)→World→Prop) (wB W0:World) (hbk:BookAt wB B T) (hq:SeQ wB B nb ns T s W0) (hN:wB.heap.size≤W0.heap.size) (hJ:AbidesFrom W0.heap.size J)
  (hY:∀ pre x W1,J pre W1→pre.length < s.size→YieldAt Fence.wide (n - 1) Tryz.prog l (zdC s x) W1 fun e W' =>
   (e=.returned (.bool true)∧J (pre++[x]) W'∧KpV wB.heap.size nb ns W1 W')∨(e=.returned (.bool false)∧Jx (pre++[x]) W'))
  (h0:J [] W0) :
  CallsIn Fence.wide n Tryz.prog 45 #[.func (.yield l) #[] #[],.pointer (some ⟨nb,0,none⟩),.pointer (some ⟨ns,0,none⟩)] W0 fun e W' =>(∃ v,e=.returned v) ∧
   ((∃ ys,ys=zal T s∧J ys W')∨(∃ pre,pre <+: zal T s∧Jx pre W')):=by
 unfold maxLen at hs
 have d0:=hq.c1
 have d1:=hq.c2
 have HSL:=kz (zb9 T s)
 have hl1:nb < W0.heap.size:=za5 hq.c1
 have hl2:ns < W0.heap.size:=za5 hq.c2
 have HY:=kz hY
 have HJ:=kz hJ
 have H0:=kz h0
 have HN:=kz hN
 have HQ0:=kz (hq.kp (KpQ.below ((Below.refl W0.heap.size W0).alloc (Nat.le_refl _) (.stringIter s 0)) hN hl1 hl2))
 have HJ0:=kz (hJ _ _ _ none h0 (World.grownBy_alloc W0 (.stringIter s 0) none) (fun r e =>by cases e))
 have HBK:=kz (fun r w1 (h:Below wB.heap.size wB w1) =>zbq hO B r w1 (hbk.below h))
 clear hY hJ h0 hq hN hbk
 refine callsIn_of_wp Tryz.func45 rfl trivial ?_ rfl
 simp only [Tryz.ntmps45,List.size_toArray,List.length_cons,List.length_nil,Nat.reduceAdd,Nat.reduceSub,Array.replicate_succ,Array.replicate_zero,List.push_toArray,List.append_toArray,List.nil_append,List.cons_append]
 gi_wp2
 gi_loopw [4] (fun nv wr => ∃ (pre:List (Nat × Nat)) (m pos f:Nat),nv=.int .i64 m∧m≤pos∧pos≤s.size∧Hz (spN s=pre++(zaj s f pos).zipIdx m)∧s.size≤pos+f∧Hz (wr.heap[W0.heap.size]?=some (.stringIter s pos))∧Hz (SeQ wB B nb ns T s wr)∧Hz (J (pre.filter (zaS T s)) wr))
  (fun _ wr =>s.size - wr.iterPos W0.heap.size)
 case atStart =>
  exact ⟨[],0,0,s.size,rfl,by omega,by omega,kz rfl,by omega,kz (World.iter_heap W0 s 0),HQ0,HJ0⟩
 case round =>
  clear HQ0 HJ0 d0 d1
  obtain ⟨pre,m,pos,f,rfl,hmp,hps,HST,hf,HIT,HQ,HJ1⟩:=hrel
  have hit:=oz HIT
  by_cases hp:pos < s.size
  ·obtain ⟨f,rfl⟩:∃ g,f=g+1:=⟨f - 1,by omega⟩
   have hst:=oz HST
   rw [zar s f pos hp,List.zipIdx_cons] at hst
   have hnx:∀ ty,(Instr.next (.pointer (some ⟨W0.heap.size,0,none⟩)) true ty).run Tryz.prog wr=_:=fun ty =>Lib.run_next_any_at wr W0.heap.size s pos ty hit hp
   have hb1:=zb6 wr W0.heap.size s (pos+(Utf8.decode s pos).2) (Nat.le_refl W0.heap.size)
   have hi1:=Lib.iterAt_heap wr W0.heap.size s pos (pos+(Utf8.decode s pos).2) hit
   have hsz:W0.heap.size < (wr.iterAt W0.heap.size s (pos+(Utf8.decode s pos).2)).heap.size:=(Array.getElem?_eq_some_iff.1 hi1).1
   have HJ2:=kz (oz HJ _ _ _ _ (oz HJ1) (zee wr W0.heap.size s (pos+(Utf8.decode s pos).2)) (fun r e =>by cases e;exact ⟨Nat.le_refl _,_,hit,rfl⟩))
   have HQ2:=kz ((oz HQ).kp (KpQ.below hb1 (oz HN) hl1 hl2))
   have HI1:=kz hi1
   have HS:=kz hst
   have d0:=(oz HQ2).c1
   have hm1:(m:Int)+1=((m+1:Nat):Int):=by omega
   have hroom:=zdg s pos hp
   have hwp:=zbv s pos
   have HD:=kz (oz HBK ((Utf8.decode s pos).1:Nat) _ (oz HQ2).bl)
   have HM1:=kz hm1
   clear hb1 hi1 hst hit HJ1 HST HQ hm1
   cases hd:drB T (rn s pos) with
   | true =>
    rw [show drB T (((Utf8.decode s pos).1:Nat):Int)=true from hd] at HD
    have HS2:Hz (spN s=(pre++[(pos,m)])++(zaj s f (pos+wd s pos)).zipIdx (m+1)):=kz (by rw [oz HS];simp)
    have HF:Hz ((pre++[(pos,m)]).filter (zaS T s)=pre.filter (zaS T s)):=kz (by
     rw [List.filter_append,List.filter_cons_of_neg (by unfold zaS;rw [hd];decide),List.filter_nil,List.append_nil])
    clear hd HS
    gi_wp2_with fail
    refine ⟨trivial, ?_⟩
    refine (callsIn_wide.2 (oz HD)).mono ?_
    rintro e W2 ⟨rfl,hb2⟩
    have HJ3:Hz (J ((pre++[(pos,m)]).filter (zaS T s)) W2):=kz (by rw [oz HF];exact oz HJ _ _ _ none (oz HJ2) (zbQ hb2) (fun r e =>by cases e))
    have HQ3:=kz ((oz HQ2).kp (KpQ.below hb2 (by have:=oz HN;omega) (by omega) (by omega)))
    have HI2:Hz (W2.heap[W0.heap.size]?=some (.stringIter s (pos+(Utf8.decode s pos).2))):=kz ((hb2.block _ hsz).trans (oz HI1))
    clear hb2 hnx HJ2 HQ2 HI1 d0 HD
    gi_wp2
    refine ⟨(fun f hf =>by cases hf), ?_⟩
    go_at_K
    gi_wp2
    go_roundw
    case rel =>exact ⟨pre++[(pos,m)],m+1,pos+wd s pos,f,by first | rfl | rw [oz HM1],by omega,by omega,HS2,by omega,HI2,HQ3,HJ3⟩
    case measure =>rw [zaA (oz HI2),zaA (oz HIT)];have:=zbv s pos;simp only [wd] at this;omega
   | false =>
    rw [show drB T (((Utf8.decode s pos).1:Nat):Int)=false from hd] at HD
    have HS2:Hz (spN s=(pre++[(pos,m)])++(zaj s f (pos+wd s pos)).zipIdx (m+1)):=kz (by rw [oz HS];simp)
    have HF:Hz ((pre++[(pos,m)]).filter (zaS T s)=pre.filter (zaS T s)++[(pos,m)]):=kz (by
     rw [List.filter_append,List.filter_cons_of_pos (by unfold zaS;rw [hd];rfl),List.filter_nil])
    have HPX:Hz (pre.filter (zaS T s)++[(pos,m)] <+: zal T s):=kz (by rw [← oz HF];exact zcP (oz HS2))
    clear hd HS
    gi_wp2_with fail
    refine ⟨trivial, ?_⟩
    refine (callsIn_wide.2 (oz HD)).mono ?_
    rintro e W2 ⟨rfl,hb2⟩
    have hj2:=oz HJ _ _ _ none (oz HJ2) (zbQ hb2) (fun r e =>by cases e)
    have HQ3:=kz ((oz HQ2).kp (KpQ.below hb2 (by have:=oz HN;omega) (by omega) (by omega)))
    have HI2:Hz (W2.heap[W0.heap.size]?=some (.stringIter s (pos+(Utf8.decode s pos).2))):=kz ((hb2.block _ hsz).trans (oz HI1))
    have hge2:W0.heap.size≤W2.heap.size:=by have:=hb2.size;omega
    obtain ⟨fn,tmps,assign,body,hy,hR⟩:=(oz HY) _ (pos,m) W2 hj2 (zfl (oz HPX) (oz HSL))
    dsimp only [zdC] at hy
    have HRR:=kz hR
    clear hj2 hb2 hnx hR HJ2 HQ2 HI1 d0 HD
    gi_wp2
    refine (oz HRR).mono ?_
    rintro e W3 (⟨rfl,hJ3,hk3⟩ | ⟨rfl,hJx3⟩)
    ·have HI3:Hz (W3.heap[W0.heap.size]?=some (.stringIter s (pos+(Utf8.decode s pos).2))):=kz (hk3.2.same _ _ (oz HI2) rfl)
     have HQ4:=kz ((oz HQ3).kp hk3.1)
     have HJ3:Hz (J ((pre++[(pos,m)]).filter (zaS T s)) W3):=kz (by rw [oz HF];exact hJ3)
     clear hJ3 hk3 hy
     gi_wp2
     go_roundw
     case rel =>exact ⟨pre++[(pos,m)],m+1,pos+wd s pos,f,by first | rfl | rw [oz HM1],by omega,by omega,HS2,by omega,HI3,HQ4,HJ3⟩
     case measure =>rw [zaA (oz HI3),zaA (oz HIT)];have:=zbv s pos;simp only [wd] at this;omega
    ·have HJx3:=kz hJx3
     clear hJx3 hy
     gi_wp2
     refine bodyPost_ret (results_none rfl _ _ _) rfl ?_
     exact ⟨⟨_,rfl⟩,.inr ⟨_,oz HPX,oz HJx3⟩⟩
  ·have hnx:∀ ty,(Instr.next (.pointer (some ⟨W0.heap.size,0,none⟩)) true ty).run Tryz.prog wr=_:=fun ty =>Lib.run_next_end_at wr W0.heap.size s pos ty hit hp
   have hst:=oz HST
   rw [zaH s f pos hp,List.zipIdx_nil,List.append_nil] at hst
   have HE:Hz (J (zal T s) wr):=kz (by unfold zal;rw [hst];exact oz HJ1)
   clear hst hit
   gi_wp2
   go_end0
   first
    | exact ⟨⟨_,rfl⟩,.inl ⟨_,rfl,oz HE⟩⟩
    | exact ⟨⟨_,rfl⟩,.inl (oz HE)⟩
theorem zfk (n nb ns B:Nat) (hn:1≤n) (T:TV) (hO:zav T) (s:ByteArray) (hs:s.size≤maxLen) (wB w:World) (hbk:BookAt wB B T) (hq:SeQ wB B nb ns T s w) (hN:wB.heap.size≤w.heap.size) :
  SeqStopsK Fence.wide n Tryz.prog 45 #[.pointer (some ⟨nb,0,none⟩),.pointer (some ⟨ns,0,none⟩)] (zdC s) (KpV wB.heap.size nb ns) (fun ys =>ys=zal T s) (fun pre =>pre <+: zal T s) s.size w:=fun l J Jx W hW hJ _ hY h0 =>
 zhR n l nb ns B hn T hO s hs J Jx wB W hbk (hq.kp (KpQ.below hW hN (za5 hq.c1) (za5 hq.c2))) (Nat.le_trans hN hW.size) hJ hY h0
attribute [local go_sem] Oper.semAt_some
set_option maxRecDepth 100000
set_option maxHeartbeats 8000000
abbrev zjZ (zs:List Int):List Value:=zs.map (Value.int .i32)
theorem zhK (c l:Nat) (hl:l=0) (w:World):Calls Tryz.prog 43 #[.slice none l c] w fun e w' =>e=.returned (zcj [])∧w'=w:=by
 subst hl
 have kc:=run_convert_runes_nil (P:=Tryz.prog) w 88 9 21 0 c Tryz.underlying88 Tryz.underlying21 Tryz.underlying9
 have HKC:=kz kc
 clear kc
 go_enter Tryz.func43,Tryz.ntmps43
 go_wp2
 go_loop [8] (fun i =>i=.int .i64 0) (fun i =>0)
 case atStart =>rfl
 case round =>
  obtain rfl:=hrel
  have kc:=oz HKC
  go_wp2
  go_ret2
  exact ⟨rfl,rfl⟩
theorem zhJ {W:World} {lo:Nat} {v:Value} {zs:List Int} (h:W.ownsRow lo 21 1 v zs.length (zjZ zs)) (hz:zs.length≤9223372036854775807):Calls Tryz.prog 43 #[v] W fun e w' =>e=.returned (zcj zs)∧w'=W:=by
 have hc:=fun g =>h.cells (g:=g)
 rcases h.2 with ⟨rfl,h0⟩ | ⟨g,cap,cur,rfl,_,hgb,_⟩
 ·obtain rfl:zs=[]:=List.length_eq_zero_iff.1 h0
  exact zhK 0 0 rfl W
 ·refine zkc g 0 cap zs hz W (fun j hj =>?_)
  have:=hc g rfl j (.int .i32 (zs.getD j 0)) (by rw [List.getElem?_map,List.getD,List.getElem?_eq_getElem hj];rfl)
  rw [show ((⟨g,0,none⟩:Addr).add j)=⟨g,0+j,none⟩ by unfold Addr.add;split <;> simp_all] at this
  exact this
theorem zih {W w1:World} {N lo B:Nat} {t e:TypeId} {size:Nat} {v v':Value} {k m:Nat} {xs ys:List Value} {tmp:Obj}
  (hv:Boxed W B t v) (hte:t≠e) (hrow:W.ownsRow lo e size v k xs) (hlo:lo≤W.heap.size) (hNB:N≤B) (hNl:N≤lo)
  (hown':w1.ownsRow lo e size v' m ys) (hgrow:(W.alloc tmp).grownBy w1 v.ownBlock) :
  Boxed w1 B t v ∧ Boxed (w1.setCell ⟨B, 0, none⟩ v') B t v' ∧ (w1.setCell ⟨B, 0, none⟩ v').ownsRow lo e size v' m ys ∧ KeepsOthers W (w1.setCell ⟨B, 0, none⟩ v') ∧ Below N W (w1.setCell ⟨B, 0, none⟩ v') ∧
    ∀ j,j < lo→j≠B→(w1.setCell ⟨B,0,none⟩ v').heap[j]?=W.heap[j]?:=by
 have hv1:Boxed w1 B t v:=(hv.alloc tmp).kept hgrow (hv.not_row hte hrow)
 have hlt:=hrow.lt
 refine ⟨hv1,hv1.set v',hown'.kept (grownBy_setCell' w1 B v') (.inr (hv1.not_row hte hown').symm), ?_, ?_, ?_⟩
 ·refine ((KeepsOthers.alloc W tmp).trans (KeepsOthers.of_grownBy hgrow fun j o ej hj =>?_)).trans (KeepsOthers.setCell _ _ _)
  rcases (hrow.alloc tmp).2 with ⟨rfl,_⟩ | ⟨g,cap,cur,rfl,_,hgb,_⟩
  ·simp [Value.ownBlock] at ej
  ·obtain rfl:g=j:=by simpa [Value.ownBlock] using ej
   rw [hgb] at hj;cases hj;rfl
 ·exact (((Below.refl N W).alloc (by omega) tmp).grown hgrow (by simp;omega) fun j ej =>by have:=(hlt j ej).1;omega).setCell (p:=⟨B,0,none⟩) hNB v'
 ·intro j hj hne
  refine (Below.heap_setCell w1 ⟨B,0,none⟩ v' j hne).trans ((hgrow.block j (by simp;omega) (fun e' =>?_)).trans (Below.heap_alloc _ _ _ (by omega)))
  have:=(hlt j e'.symm).1
  omega
abbrev zhd (s:ByteArray) (l:List (Nat × Nat)):List Int:=l.map fun x =>(rn s x.1:Int)
def StI (w:World) (Bl lo:Nat) (s:ByteArray) (pre:List (Nat × Nat)) (W:World):Prop := ∃ v,Boxed W Bl 88 v∧W.ownsRow lo 21 1 v (zhd s pre).length (zjZ (zhd s pre))∧Below w.heap.size w W∧lo≤W.heap.size
theorem StI.own {w:World} {Bl lo B:Nat} {s:ByteArray} (h1:w.heap.size≤B):OwnFrom B (StI w Bl lo s):=by
 rintro p X Y row ⟨v,hv,hr,hb,hlo⟩ hg hrow
 refine ⟨v,hv.kept hg (fun e' =>?_),hr.kept hg ?_,hb.grown hg hb.size (fun j e =>by have:=(hrow j e).1;omega),Nat.le_trans hlo hg.size⟩
 ·obtain ⟨_,o,ho,hc⟩:=hrow Bl e'.symm
  rw [show X.heap[Bl]?=_ from hv] at ho;cases ho;cases hc
 ·rcases hr.2 with ⟨rfl,_⟩ | ⟨g,cap,cur,rfl,_,hgb,_⟩
  ·exact .inl rfl
  ·refine .inr fun e' =>?_
   obtain ⟨_,o,ho,hc⟩:=hrow g (by simpa [Value.ownBlock] using e'.symm)
   rw [hgb] at ho;cases ho;cases hc
def zbw (T:TV) (s:ByteArray):ByteArray:=runesBytes (zhd s (zal T s))
theorem zjP:(Tryz.prog.info? 21).map (fun i =>(i.zero,i.size,i.bytes))=some (some (.int .i32 0),1,4):=by kernel_rfl
theorem zfm (T:TV) (s:ByteArray):zcj (zhd s (zal T s))=.tuple #[.string (zbw T s),.int .i64 0]:=by
 unfold zcj
 rw [if_pos]
 ·rfl
 ·unfold zfa
  rw [List.all_eq_true]
  intro z hz
  obtain ⟨x,_,rfl⟩:=List.mem_map.1 hz
  simpa using zgn s x.1
theorem zhL (n:Nat) (hn:4≤n) (T:TV) (hO:zav T) (s:ByteArray) (hs:s.size≤1000000000000) (B:Nat) (w:World) (hbk:BookAt w B T) :
  CallsIn Fence.wide n Tryz.prog 18 #[.pointer (some ⟨B,0,none⟩),.string s] w fun e w' =>e=.returned (.string (zbw T s))∧Below w.heap.size w w':=by
 have h1:1≤n:=by omega
 have hsm:s.size≤maxLen:=by unfold maxLen;omega
 have hsl:(zah s).length≤s.size:=zap s
 have hsn:=zb9 T s
 refine callsIn_of_wp_marks Tryz.func18 rfl trivial ?_ rfl
 simp only [Tryz.ntmps18,List.size_toArray,List.length_cons,List.length_nil,Nat.reduceAdd,Nat.reduceSub,Array.replicate_succ,Array.replicate_zero,List.push_toArray,List.append_toArray,List.nil_append,List.cons_append]
 obtain ⟨Bl,hBl⟩:∃ Bl,Bl=w.heap.size:=⟨_,rfl⟩
 have hx0:Boxed (w.alloc (.cells #[.slice none 0 0] 88)) Bl 88 (.slice none 0 0):=by rw [hBl];exact Boxed.new w _ _
 have hB1:=(Below.refl w.heap.size w).alloc (Nat.le_refl _) (.cells #[.slice none 0 0] 88)
 have hz1:(w.alloc (.cells #[.slice none 0 0] 88)).heap.size=w.heap.size+1:=by simp
 gi_wp2_with fail
 rw [← hBl]
 generalize w.alloc (.cells #[.slice none 0 0] 88)=W1 at *
 refine ⟨trivial, ?_⟩
 refine (callsIn_wide.2 (zcS B s W1)).mono ?_
 rintro e w' ⟨rfl,rfl⟩
 have hsq:SeQ w B W1.heap.size (W1.heap.size+1) T s _:=SeQ.new hB1 29 9
 have hx1:=(hx0.alloc (.cells #[.pointer (some ⟨B,0,none⟩)] 29)).alloc (.cells #[.string s] 9)
 have hz2:((W1.alloc (.cells #[.pointer (some ⟨B,0,none⟩)] 29)).alloc (.cells #[.string s] 9)).heap.size=W1.heap.size+2:=by simp
 generalize (W1.alloc (.cells #[.pointer (some ⟨B,0,none⟩)] 29)).alloc (.cells #[.string s] 9)=W2 at *
 have e1:W1.heap.size=Bl+1:=by omega
 have e2:W2.heap.size=Bl+1+2:=by omega
 rw [e1] at hsq
 gi_wp2
 rename_i K1 hK1
 have hK1':=kz hK1
 have i0:=zjP
 obtain ⟨i0,hi,hz0,hz1',hz2'⟩:=info_parts i0
 have HIN:=kz (And.intro hi (And.intro hz0 (And.intro hz1' hz2')))
 subst hBl
 have h3:w.heap.size+3≤W2.heap.size:=by omega
 clear hK1 hx0 hB1 hi hz0 hz1' hz2' hz1 hz2 e1 e2
 refine wpIn_rangeFunc_ownH rfl h1 (gf:=45) (lb:=#[.pointer (some ⟨w.heap.size+1,0,none⟩),.pointer (some ⟨w.heap.size+1+1,0,none⟩)]) rfl trivial (enters_of Tryz.func45 (by kernel_rfl) rfl)
  (zfk (n - 1) (w.heap.size+1) (w.heap.size+1+1) B (by omega) T hO s hsm w W2 hbk hsq (by omega)) KpV.trans (KpV.put (by omega) (by omega) (by omega)) (Below.refl _ _) (fun _ =>rfl)
  (StI w w.heap.size W2.heap.size s) (fun _ _ _ =>False) (StI.own (by omega)) (fun _ _ _ _ _ h _ _ =>h) ⟨_,hx1,World.ownsRow_nil _ _ _ _,hsq.bl,Nat.le_refl _⟩
  (fun x a' W =>a' = { tmps:=#[.pointer (some ⟨B,0,none⟩),.string s,undef,undef,.string ⟨#[]⟩,.pointer (some ⟨w.heap.size,0,none⟩),undef,.int .i32 (rn s x.1),undef,undef,.pointer (some ⟨B,0,none⟩),.string s,.func (.func 45) #[] #[.pointer (some ⟨w.heap.size+1,0,none⟩),.pointer (some ⟨w.heap.size+1+1,0,none⟩)],.agg #[.int .i64 x.1,.int .i64 x.2],.int .i32 (rn s x.1),undef,undef,undef,undef,undef,undef,undef,undef,undef,undef],defers := [] })
  (fun x a' _ _ _ _ h _ _ =>h) ?assign ?body ?done ?stop
 case assign =>
  rintro l pre x W K hI hK
  gi_wp2
  exact hK _ _ ((KeepsOthers.refl _).from _) ⟨KpQ.refl _,KeepsWalks.refl _⟩ hI rfl
 case body =>
  rintro l pre x a' W hl ⟨r,hr⟩ ⟨v,hbx,hrow,hB,hlo⟩ rfl hlt
  have n0:=hbx.cell
  have nf:=hbx.frozen
  obtain ⟨hi,hz0,hz1',hz2'⟩:=oz HIN
  have hk:(zhd s pre).length=pre.length:=by simp
  have HR:=kz hrow
  have HBX:=kz hbx
  have HBB:=kz hB
  have n1:=(hbx.alloc (.cells #[.int .i32 (rn s x.1)] 21)).cell
  clear hx1 hsq hrow hbx hB
  gi_wp2_with (gi_at_builtin;refine wpListIn_append_own _ rfl _ _ 88 rfl W2.heap.size 21 i0 (.int .i32 0) 1 4 Tryz.underlying88 hi hz0 hz1' hz2' rfl (by decide) v _ _ rfl ((oz HR).alloc _) ⟨W.heap.size,0,none⟩ 1 1 [.int .i32 (rn s x.1)] rfl rfl ?c1 ?c2 ?c3 ?c4 ?c5 ?_)
  case c1 =>
   intro j u hj
   match j,hj with
   | 0,hj =>simp at hj;subst hj;simp [Addr.add]
  case c2 =>intro u hu;simp at hu;subst hu;rfl
  case c3 =>unfold maxLen;omega
  case c4 =>omega
  case c5 =>simp;omega
  intro v' w1 hown' hgrow _
  obtain ⟨q1,q2,q3,q4,q5,q6⟩:=zih (N:=w.heap.size) (oz HBX) (by decide) (oz HR) hlo (by omega) (by omega) hown' hgrow
  obtain ⟨g,cap,rfl⟩:=ownsRow_succ hown'
  have n2:=q1.cell
  have nf2:=q1.frozen
  have HE:=kz (And.intro q2 (And.intro q3 (And.intro q4 (And.intro q5 q6))))
  clear hown' hgrow q1 q2 q3 q4 q5 q6
  gi_wp2
  obtain ⟨q2,q3,q4,q5,q6⟩:=oz HE
  refine ⟨q4.from _,⟨⟨q5,q6 _ (by omega) (by omega),q6 _ (by omega) (by omega)⟩,q4.walks⟩,_,q2, ?_,(oz HBB).trans q5,Nat.le_trans hlo q4.size⟩
  simpa [zhd,zjZ] using q3
 case done =>
  rintro D xs W3 hD hS ⟨v,hbx,hrow,hB,hlo⟩ hdef
  subst hS
  have n0:=hbx.cell
  have hwD:w.heap.size≤D:=by omega
  have HB:=kz hB
  have HD:=kz hdef
  have HT:=kz (zhJ hrow (by simp;omega))
  rw [zfm] at HT
  clear hB hdef hbx hrow hx1 hsq
  apply oz hK1'
  gi_wp2_with fail
  refine ⟨trivial, ?_⟩
  refine (callsIn_wide.2 (oz HT)).mono ?_
  rintro e w4 ⟨rfl,rfl⟩
  gi_wp2
  refine ⟨by simp,.inl ⟨_,_,rfl,run_takeDeferred (oz HD), ?_⟩⟩
  refine ⟨_, ?_,rfl,(oz HB).trans (belowK_b (w:=w) (Nat.le_refl _) _ D _ _ hwD (oz HD) rfl rfl)⟩
  simp [results,Tryz.f18,go_sem]
 case stop =>
  rintro D c pre W hD hpre h
  exact h.elim
theorem zcM (T:TV) (hO:zav T) (s:ByteArray) (hs:s.size≤1000000000000) (B:Nat) (w:World) (hbk:BookAt w B T):Calls Tryz.prog 18 #[.pointer (some ⟨B,0,none⟩),.string s] w fun e w' =>e=.returned (.string (zbw T s))∧Below w.heap.size w w' :=
 callsIn_wide.1 (zhL 4 (Nat.le_refl _) T hO s hs B w hbk)
attribute [local go_sem] Oper.semAt_some
attribute [local go_sem] Oper.semAt_some
attribute [local go_sem] Oper.semAt_some
end
section
open Go.RowKit Go.Shelf Go.Maps
theorem zmj:zbw HT ⟨#[97,226,128,141,98,255]⟩=⟨#[97,98,239,191,189]⟩:=by decide +kernel
theorem zmi:(zah ⟨#[226,128,141,97,226,128,141]⟩).length - (zal HT ⟨#[226,128,141,97,226,128,141]⟩).length=2:=by decide +kernel
theorem zgC (w:World):Calls Tryz.prog 10 #[] w fun e w' =>e=.returned (.bool true)∧Below w.heap.size w w':=by
 go_enter Tryz.func10,Tryz.ntmps10
 go_wp2_with fail
 refine (ziS w).mono ?_
 rintro e w1 ⟨v,rfl,hv,hb1⟩
 have HB1:=kz hb1
 have HC:=kz (zgv v w1 hv)
 clear hv hb1
 go_wp2_with fail
 refine (oz HC).mono ?_
 rintro e w2 ⟨B,rfl,hO,_,hbk,hb2⟩
 have HB2:=kz ((oz HB1).trans (hb2.mono (oz HB1).size))
 have H1:=zcM HT hO ⟨#[97,226,128,141,98,255]⟩ (by decide) B w2 hbk
 rw [zmj] at H1
 have HH1:=kz H1
 have H2:=kz (fun w3 (h:Below w2.heap.size w2 w3) =>zex HT hO ⟨#[226,128,141,97,226,128,141]⟩ (by decide) B w3 (hbk.below h))
 rw [zmi] at H2
 clear hb2 hbk H1
 go_wp2_with fail
 refine (oz HH1).mono ?_
 rintro e w3 ⟨rfl,hb3⟩
 have HH2:=kz (oz H2 w3 hb3)
 have HB3:=kz ((oz HB2).trans (hb3.mono (oz HB2).size))
 clear hb3 H2
 go_wp2_with fail
 refine (oz HH2).mono ?_
 rintro e w4 ⟨rfl,hb4⟩
 have HB4:=kz ((oz HB3).trans (hb4.mono (oz HB3).size))
 clear hb4
 go_wp2
 go_ret
 exact ⟨rfl,oz HB4⟩
end
section
open Go.RowKit Go.Shelf Go.Maps
attribute [local go_sem] Oper.semAt_some
theorem zqc (f:FuncId) (p q:Value) (w:World):(binOp BinOp.eql 52 (.func (.func f) #[] #[p,q]) .nilFunc).run Tryz.prog w=.ok (.bool false) w:=by
 have e:∃ d,Op.maxDepth=d+1:=⟨_,rfl⟩
 obtain ⟨d,hd⟩:=e
 simp [binOp,Op.equal,hd,Op.equalIn,run_underlying Tryz.underlying52]
end
section
open Go.RowKit Go.Shelf Go.Maps
theorem zgI {T:TV} (h:(zcJ T).1=0):drB T 65533=false:=by
 have h:=zdc h
 simp only [List.forall_mem_cons] at h
 obtain ⟨_,_,_,_,_,_,_,_,h9,_⟩:=h
 have h9:=zdc h9
 simp only [List.forall_mem_cons] at h9
 obtain ⟨_,_,_,_,_,h8,_⟩:=h9
 have h8:(zaG 7 T.dr.length (fun i =>drF (T.dr.getD i ma0))).1=0:=h8
 rcases zcm 7 T.dr.length (fun i =>drF (T.dr.getD i ma0)) with ⟨k,_,_,hk,e⟩ | ⟨h0,_⟩
 ·rw [e] at h8
  exact absurd h8 hk
 ·unfold drB zam
  rw [Bool.and_eq_false_iff]
  left
  rw [List.any_eq_false]
  intro x hx
  obtain ⟨i,hi,rfl⟩:=List.getElem_of_mem hx
  have:=h0 i hi
  simp only [List.getD,List.getElem?_eq_getElem hi,Option.getD_some] at this
  unfold drF at this
  intro hc
  have hc:=of_decide_eq_true hc
  rw [if_pos (.inr hc)] at this
  omega
theorem zbb (s:ByteArray):∀ (l:List Nat) (k x j:Nat),l[k]?=some x→j < 4→(l.flatMap (zaz s))[k*4+j]?=(zaz s x)[j]?
 | [],k,x,j,h,hj =>by simp at h
 | a::l,0,x,j,h,hj =>by
  simp at h
  subst h
  rw [List.flatMap_cons,List.getElem?_append_left (by simp [zaz];omega)]
  simp
 | a::l,k+1,x,j,h,hj =>by
  rw [List.getElem?_cons_succ] at h
  rw [List.flatMap_cons,List.getElem?_append_right (by simp [zaz];omega)]
  rw [show (k+1)*4+j - (zaz s a).length=k*4+j by simp [zaz];omega]
  exact zbb s l k x j h hj
theorem zcU {W:World} {hi:Nat} {a:Option Addr} {s:ByteArray} {zs:List Nat} {k x:Nat} (h:RowC W hi a (zs.flatMap (zaz s))) (hx:zs[k]?=some x) :
  ∃ g o,a=some ⟨g,o,none⟩∧g < hi∧W.cell? ⟨g,o+k*4,none⟩=some (.int .i32 (rn s x))∧W.cell? ⟨g,o+k*4+1,none⟩=some (.int .i64 x)∧W.cell? ⟨g,o+k*4+2,none⟩=some (.int .i64 (wd s x))∧W.cell? ⟨g,o+k*4+3,none⟩=some (.bool (zdm s x)):=by
 have e0:=zbb s zs k x 0 hx (by decide)
 have e1:=zbb s zs k x 1 hx (by decide)
 have e2:=zbb s zs k x 2 hx (by decide)
 have e3:=zbb s zs k x 3 hx (by decide)
 obtain ⟨g,o,e,hg,hc⟩:=h (by have:=(List.getElem?_eq_some_iff.1 (e0.trans rfl)).1;omega)
 exact ⟨g,o,e,hg,hc _ _ (e0.trans rfl),by have:=hc _ _ (e1.trans rfl);rwa [← Nat.add_assoc] at this,by have:=hc _ _ (e2.trans rfl);rwa [← Nat.add_assoc] at this,by have:=hc _ _ (e3.trans rfl);rwa [← Nat.add_assoc] at this⟩
theorem zhj {W:World} {lo E sz n:Nat} {v:Value} {xs:List Value} (h:W.ownsRow lo E sz v n xs):∃ a c,v=.slice a n c:=by
 rcases h.2 with ⟨rfl,h0⟩ | ⟨g,cap,cur,rfl,_⟩
 ·exact ⟨none,0,by rw [h0]⟩
 ·exact ⟨_,_,rfl⟩
theorem zbF {W:World} {lo E sz n lo' E' sz' n':Nat} {v u:Value} {xs ys:List Value} (h:W.ownsRow lo E sz v n xs) (k:W.ownsRow lo' E' sz' u n' ys) (hE:E≠E'):v.ownBlock=none∨v.ownBlock≠u.ownBlock:=by
 rcases h.2 with ⟨rfl,_⟩ | ⟨g,cap,cur,rfl,_,hg,_⟩
 ·exact .inl rfl
 ·rcases k.2 with ⟨rfl,_⟩ | ⟨g',cap',cur',rfl,_,hg',_⟩
  ·exact .inr (by simp [Value.ownBlock])
  ·refine .inr fun e =>?_
   obtain rfl:g=g':=by simpa [Value.ownBlock] using e
   rw [hg] at hg'
   injection hg' with hg'
   injection hg' with _ h2
   exact hE h2
def za2 (T:TV) (s:ByteArray) (k:Nat):List (Nat × Nat):=((spN s).take k).filter (zaS T s)
theorem zgh (T:TV) (s:ByteArray):za2 T s (zah s).length=zal T s:=by
 unfold za2 zal
 rw [List.take_of_length_le (by unfold spN;simp)]
theorem zfn {T:TV} {s:ByteArray} {k x:Nat} (h:(zah s)[k]?=some x):za2 T s (k+1)=za2 T s k++(if drB T (rn s x) then [] else [(x,k)]):=by
 have h1:(spN s)[k]?=some (x,k):=by unfold spN;rw [List.getElem?_zipIdx,h];simp
 unfold za2
 rw [List.take_add_one,h1,List.filter_append]
 congr 1
 show List.filter _ [(x,k)]=_
 cases hd:drB T (rn s x) with
 | true =>rw [List.filter_cons_of_neg (by unfold zaS;rw [hd];decide)];rfl
 | false =>rw [List.filter_cons_of_pos (by unfold zaS;rw [hd];rfl)];rfl
theorem zhQ (T:TV) (s:ByteArray) (k:Nat):(za2 T s k).length≤(zah s).length:=by
 unfold za2
 refine Nat.le_trans (List.length_filter_le _ _) ?_
 rw [List.length_take]
 unfold spN
 simp
 omega
theorem zjQ:(Tryz.prog.info? 3).map (fun i =>(i.zero,i.size,i.bytes))=some (some (.int .i64 0),1,8):=by kernel_rfl
set_option maxRecDepth 100000
set_option maxHeartbeats 8000000
abbrev zc2 (s:ByteArray) (l:List (Nat × Nat)):List Value:=l.flatMap fun x =>zaz s x.1
abbrev zcC (l:List (Nat × Nat)):List Value:=l.map fun x =>Value.int .i64 x.2
theorem zcV (T:TV) (hT:TabB T) (h65:drB T 65533=false) (A:TbA) (s:ByteArray) (hs:s.size≤1000000) (W:World) (hA:zfM W T A) :
  Calls Tryz.prog 13 #[.agg #[.slice A.a0 T.sc.length A.c0,.slice A.a1 T.co.length A.c1,.slice A.a2 T.ma.length A.c2,.slice A.a3 T.pr.length A.c3,.slice A.a4 T.fo.length A.c4,.slice A.a5 T.lk.length A.c5,.slice A.a6 T.dr.length A.c6,.slice A.a7 T.al.length A.c7],.string s] W fun e w' => ∃ v u,e=.returned (.tuple #[v,u])∧w'.ownsRow W.heap.size 56 4 v (zal T s).length (zc2 s (zal T s))∧w'.ownsRow W.heap.size 3 1 u (zal T s).length (zcC (zal T s))∧Below W.heap.size W w':=by
 obtain ⟨i0,hi,hz0,hz1,hz2⟩:=info_parts zh0
 have HI:=kz hi
 have HZ0:=kz hz0
 have HZ1:=kz hz1
 have HZ2:=kz hz2
 obtain ⟨j0,hi',hz0',hz1',hz2'⟩:=info_parts zjQ
 have HJ:=kz hi'
 have HY0:=kz hz0'
 have HY1:=kz hz1'
 have HY2:=kz hz2'
 clear hi hz0 hz1 hz2 hi' hz0' hz1' hz2'
 have hdr:T.dr.length≤1048576:=hT.n6
 have HX:=kz (TbX.start hA)
 have hst:=zap s
 have H65:=kz h65
 clear hA hT h65
 go_enter Tryz.func13,Tryz.ntmps13
 go_wp2_with fail
 generalize W.alloc (.cells #[.slice A.a0 T.sc.length A.c0,.slice A.a1 T.co.length A.c1,.slice A.a2 T.ma.length A.c2,.slice A.a3 T.pr.length A.c3,.slice A.a4 T.fo.length A.c4,.slice A.a5 T.lk.length A.c5,.slice A.a6 T.dr.length A.c6,.slice A.a7 T.al.length A.c7] 28)=w0 at *
 refine (zcr s (by omega) w0).mono ?_
 rintro e w1 ⟨v0,rfl,hown,hb⟩
 obtain ⟨a0,c0,rfl⟩:=zas hown
 have HX1:=kz ((oz HX).below hb)
 have HP1:=kz (zbg hown)
 clear HX hb hown
 go_wp2_with fail
 go_loopw [6,7,9] (fun v u i wr => ∃ k:Nat,i=.int .i64 k∧k≤(zah s).length∧Hz (wr.ownsRow w1.heap.size 56 4 v (za2 T s k).length (zc2 s (za2 T s k)))∧Hz (wr.ownsRow w1.heap.size 3 1 u (za2 T s k).length (zcC (za2 T s k)))∧Hz (Below w1.heap.size w1 wr))
  (fun _ _ i _ =>(zah s).length - (intOf i).toNat)
 case atStart =>exact ⟨0,rfl,Nat.zero_le _,kz (World.ownsRow_nil _ _ _ _),kz (World.ownsRow_nil _ _ _ _),kz (Below.refl _ _)⟩
 case round =>
  obtain ⟨k,rfl,hk,HQ,HU,HB⟩:=hrel
  by_cases hkn:k < (zah s).length
  ·have hk':(k:Int) < ((zah s).length:Int):=by omega
   obtain ⟨x,hx⟩:∃ x,(zah s)[k]?=some x:=⟨_,List.getElem?_eq_getElem hkn⟩
   have hkl:=zhQ T s k
   have HS:=kz (zfn (T:=T) hx)
   have HX2:=kz ((oz HX1).below (oz HB))
   have HP:=kz ((oz HP1).below (oz HB) (Nat.le_refl _))
   obtain ⟨g',o',ea,hg,s0,s1,s2,s3⟩:=zcU (oz HP) hx
   have c0:=cell_regrown s0
   have c3:=cell_regrown s3
   have z6:=cell_regrown (oz HX2).z6
   clear s0 s1 s2 s3
   subst ea
   cases hb:zdm s x with
   | true =>
    rw [hb] at c3
    have hd2:drB T (rn s x)=false:=by
     have:rn s x=65533:=(of_decide_eq_true hb).1
     rw [this]
     exact oz H65
    rw [hd2] at HS
    clear hb
    go_wp2_with fail
    refine wp_region_quiet_below (by kernel_rfl) (by kernel_rfl) ?_
    repeat (go_big_quiet_step (exact Calls.regrown_of ((zbk T.dr hdr A.a6 A.c6 (rn s x) _ ((oz HX2).ti.r6.below (below_regrown wr _ _) (below_regrown wr _ _).size)).mono (fun e w2 h =>⟨h.1,h.2 ▸ Below.refl _ _⟩))))
    first | refine wpQuiet_nil ?_ | skip
    rintro w' ⟨dq,rfl⟩
    have hbr:=below_regrown wr dq.d dq.os
    generalize Go.Sort.grow (redrawn wr dq.d) dq.os=w5 at *
    have HP5:=kz ((oz HP).below (hbr.mono (oz HB).size) (Nat.le_refl _))
    have HQ5:=kz (zaq (oz HQ) hbr)
    have HU5:=kz (zaq (oz HU) hbr)
    have HB5:=kz ((oz HB).trans (hbr.mono (oz HB).size))
    clear HP HQ HU HB hbr c3 c0 z6
    obtain ⟨g,o,ea,hg,s0,s1,s2,s3⟩:=zcU (oz HP5) hx
    obtain ⟨rfl,rfl⟩:g=g'∧o=o':=by cases ea;exact ⟨rfl,rfl⟩
    clear ea
    obtain ⟨bb,hbb⟩:∃ bb,bb=zdm s x:=⟨_,rfl⟩
    rw [← hbb] at s3
    have HBBB:=kz hbb
    clear hbb
    have hln:=zdy w5 (.int .i32 (rn s x)) (.int .i64 x) (.int .i64 (wd s x)) (.bool bb) 56
    have HLN:=kz hln
    clear hln
    go_wp2_with (at_builtin;refine wpList_append_own _ rfl _ _ 35 rfl w1.heap.size 56 i0 (.agg #[.int .i32 0,.int .i64 0,.int .i64 0,.bool false]) 4 32 Tryz.underlying35 (oz HI) (oz HZ0) (oz HZ1) (oz HZ2) rfl (by decide) _ _ _ rfl ((oz HQ5).alloc _) ⟨w5.heap.size,0,none⟩ 1 1 [.int .i32 (rn s x),.int .i64 x,.int .i64 (wd s x),.bool bb] rfl rfl ?c1 ?c2 ?c3 ?c4 ?c5 ?_)
    case c1 =>have:=oz HLN;simpa using this
    case c2 =>intro u hu;simp at hu;rcases hu with rfl | rfl | rfl | rfl <;> rfl
    case c3 =>unfold maxLen;omega
    case c4 =>omega
    case c5 =>have:=(oz HB5).size;simp;omega
    intro v6 w6 hown6 hgrow6 _
    have ho:=zbF (oz HU5) (oz HQ5) (by decide)
    have HU6:=kz (((oz HU5).alloc (.cells #[.int .i32 (rn s x),.int .i64 x,.int .i64 (wd s x),.bool bb] 56)).kept hgrow6 ho)
    have HQ6:=kz hown6
    have hlt:=zez (oz HQ5)
    have HB6:=kz (((oz HB5).alloc (oz HB5).size (.cells #[.int .i32 (rn s x),.int .i64 x,.int .i64 (wd s x),.bool bb] 56)).grown hgrow6 (by have:=(oz HB5).size;simp;omega) (fun j ej =>(hlt j ej).1))
    clear hown6 hgrow6 ho HQ5 HU5 HB5 HLN hlt s0 s1 s2 s3
    go_wp2_with (at_builtin;refine wpList_append_own _ rfl _ _ 36 rfl w1.heap.size 3 j0 (.int .i64 0) 1 8 Tryz.underlying36 (oz HJ) (oz HY0) (oz HY1) (oz HY2) rfl (by decide) _ _ _ rfl ((oz HU6).alloc _) ⟨w6.heap.size,0,none⟩ 1 1 [.int .i64 k] rfl rfl ?d1 ?d2 ?d3 ?d4 ?d5 ?_)
    case d1 =>
     intro j u hj
     match j,hj with
     | 0,hj =>simp at hj;subst hj;simp [Addr.add]
    case d2 =>intro u hu;simp at hu;subst hu;rfl
    case d3 =>unfold maxLen;omega
    case d4 =>omega
    case d5 =>have:=(oz HB6).size;simp;omega
    intro u7 w7 hown7 hgrow7 _
    have ho:=zbF (oz HQ6) (oz HU6) (by decide)
    have HQ7:=kz (((oz HQ6).alloc (.cells #[.int .i64 k] 3)).kept hgrow7 ho)
    have HU7:=kz hown7
    have hlt:=zez (oz HU6)
    have HB7:=kz (((oz HB6).alloc (oz HB6).size (.cells #[.int .i64 k] 3)).grown hgrow7 (by have:=(oz HB6).size;simp;omega) (fun j ej =>(hlt j ej).1))
    clear hown7 hgrow7 ho HQ6 HU6 HB6 hlt
    go_wp2_with fail
    go_roundw
    case rel =>
     refine ⟨k+1,by go_num,by omega, ?_, ?_,HB7⟩
     ·have e3:za2 T s (k+1)=za2 T s k++[(x,k)]:=by rw [oz HS];rfl
      have e4:zc2 s (za2 T s k++[(x,k)])=zc2 s (za2 T s k)++[.int .i32 (rn s x),.int .i64 x,.int .i64 (wd s x),.bool (zdm s x)]:=by simp [zc2,zaz,zdm]
      have:=oz HQ7
      rw [oz HBBB, ← e4] at this
      rw [e3,List.length_append,List.length_singleton]
      exact kz this
     ·have e3:za2 T s (k+1)=za2 T s k++[(x,k)]:=by rw [oz HS];rfl
      have e4:zcC (za2 T s k++[(x,k)])=zcC (za2 T s k)++[.int .i64 k]:=by simp [zcC]
      have:=oz HU7
      rw [← e4] at this
      rw [e3,List.length_append,List.length_singleton]
      exact kz this
    case measure =>simp [intOf];omega
   | false =>
    rw [hb] at c3
    clear hb
    cases hd:zam T.dr (rn s x) with
    | true =>
     have hd2:drB T (rn s x)=true:=hd
     rw [hd2] at HS
     go_wp2_with fail
     refine wp_region_quiet_below (by kernel_rfl) (by kernel_rfl) ?_
     repeat (go_big_quiet_step (exact Calls.regrown_of ((zbk T.dr hdr A.a6 A.c6 (rn s x) _ ((oz HX2).ti.r6.below (below_regrown wr _ _) (below_regrown wr _ _).size)).mono (fun e w2 h =>⟨h.1,h.2 ▸ Below.refl _ _⟩))))
     first | refine wpQuiet_nil ?_ | skip
     rintro w' ⟨dq,rfl⟩
     have hbr:=below_regrown wr dq.d dq.os
     generalize Go.Sort.grow (redrawn wr dq.d) dq.os=w5 at *
     have HP5:=kz ((oz HP).below (hbr.mono (oz HB).size) (Nat.le_refl _))
     have HQ5:=kz (zaq (oz HQ) hbr)
     have HU5:=kz (zaq (oz HU) hbr)
     have HB5:=kz ((oz HB).trans (hbr.mono (oz HB).size))
     clear HP HQ HU HB hbr c3 c0 z6
     go_wp2_with fail
     go_roundw
     case rel =>
      refine ⟨k+1,by go_num,by omega, ?_, ?_,HB5⟩
      ·rw [oz HS]
       exact kz (by simpa using oz HQ5)
      ·rw [oz HS]
       exact kz (by simpa using oz HU5)
     case measure =>simp [intOf];omega
    | false =>
     have hd2:drB T (rn s x)=false:=hd
     rw [hd2] at HS
     go_wp2_with fail
     refine wp_region_quiet_below (by kernel_rfl) (by kernel_rfl) ?_
     repeat (go_big_quiet_step (exact Calls.regrown_of ((zbk T.dr hdr A.a6 A.c6 (rn s x) _ ((oz HX2).ti.r6.below (below_regrown wr _ _) (below_regrown wr _ _).size)).mono (fun e w2 h =>⟨h.1,h.2 ▸ Below.refl _ _⟩))))
     first | refine wpQuiet_nil ?_ | skip
     rintro w' ⟨dq,rfl⟩
     have hbr:=below_regrown wr dq.d dq.os
     generalize Go.Sort.grow (redrawn wr dq.d) dq.os=w5 at *
     have HP5:=kz ((oz HP).below (hbr.mono (oz HB).size) (Nat.le_refl _))
     have HQ5:=kz (zaq (oz HQ) hbr)
     have HU5:=kz (zaq (oz HU) hbr)
     have HB5:=kz ((oz HB).trans (hbr.mono (oz HB).size))
     clear HP HQ HU HB hbr c3 c0 z6
     obtain ⟨g,o,ea,hg,s0,s1,s2,s3⟩:=zcU (oz HP5) hx
     obtain ⟨rfl,rfl⟩:g=g'∧o=o':=by cases ea;exact ⟨rfl,rfl⟩
     clear ea
     obtain ⟨bb,hbb⟩:∃ bb,bb=zdm s x:=⟨_,rfl⟩
     rw [← hbb] at s3
     have HBBB:=kz hbb
     clear hbb
     have hln:=zdy w5 (.int .i32 (rn s x)) (.int .i64 x) (.int .i64 (wd s x)) (.bool bb) 56
     have HLN:=kz hln
     clear hln
     go_wp2_with (at_builtin;refine wpList_append_own _ rfl _ _ 35 rfl w1.heap.size 56 i0 (.agg #[.int .i32 0,.int .i64 0,.int .i64 0,.bool false]) 4 32 Tryz.underlying35 (oz HI) (oz HZ0) (oz HZ1) (oz HZ2) rfl (by decide) _ _ _ rfl ((oz HQ5).alloc _) ⟨w5.heap.size,0,none⟩ 1 1 [.int .i32 (rn s x),.int .i64 x,.int .i64 (wd s x),.bool bb] rfl rfl ?c1 ?c2 ?c3 ?c4 ?c5 ?_)
     case c1 =>have:=oz HLN;simpa using this
     case c2 =>intro u hu;simp at hu;rcases hu with rfl | rfl | rfl | rfl <;> rfl
     case c3 =>unfold maxLen;omega
     case c4 =>omega
     case c5 =>have:=(oz HB5).size;simp;omega
     intro v6 w6 hown6 hgrow6 _
     have ho:=zbF (oz HU5) (oz HQ5) (by decide)
     have HU6:=kz (((oz HU5).alloc (.cells #[.int .i32 (rn s x),.int .i64 x,.int .i64 (wd s x),.bool bb] 56)).kept hgrow6 ho)
     have HQ6:=kz hown6
     have hlt:=zez (oz HQ5)
     have HB6:=kz (((oz HB5).alloc (oz HB5).size (.cells #[.int .i32 (rn s x),.int .i64 x,.int .i64 (wd s x),.bool bb] 56)).grown hgrow6 (by have:=(oz HB5).size;simp;omega) (fun j ej =>(hlt j ej).1))
     clear hown6 hgrow6 ho HQ5 HU5 HB5 HLN hlt s0 s1 s2 s3
     go_wp2_with (at_builtin;refine wpList_append_own _ rfl _ _ 36 rfl w1.heap.size 3 j0 (.int .i64 0) 1 8 Tryz.underlying36 (oz HJ) (oz HY0) (oz HY1) (oz HY2) rfl (by decide) _ _ _ rfl ((oz HU6).alloc _) ⟨w6.heap.size,0,none⟩ 1 1 [.int .i64 k] rfl rfl ?d1 ?d2 ?d3 ?d4 ?d5 ?_)
     case d1 =>
      intro j u hj
      match j,hj with
      | 0,hj =>simp at hj;subst hj;simp [Addr.add]
     case d2 =>intro u hu;simp at hu;subst hu;rfl
     case d3 =>unfold maxLen;omega
     case d4 =>omega
     case d5 =>have:=(oz HB6).size;simp;omega
     intro u7 w7 hown7 hgrow7 _
     have ho:=zbF (oz HQ6) (oz HU6) (by decide)
     have HQ7:=kz (((oz HQ6).alloc (.cells #[.int .i64 k] 3)).kept hgrow7 ho)
     have HU7:=kz hown7
     have hlt:=zez (oz HU6)
     have HB7:=kz (((oz HB6).alloc (oz HB6).size (.cells #[.int .i64 k] 3)).grown hgrow7 (by have:=(oz HB6).size;simp;omega) (fun j ej =>(hlt j ej).1))
     clear hown7 hgrow7 ho HQ6 HU6 HB6 hlt
     go_wp2_with fail
     go_roundw
     case rel =>
      refine ⟨k+1,by go_num,by omega, ?_, ?_,HB7⟩
      ·have e3:za2 T s (k+1)=za2 T s k++[(x,k)]:=by rw [oz HS];rfl
       have e4:zc2 s (za2 T s k++[(x,k)])=zc2 s (za2 T s k)++[.int .i32 (rn s x),.int .i64 x,.int .i64 (wd s x),.bool (zdm s x)]:=by simp [zc2,zaz,zdm]
       have:=oz HQ7
       rw [oz HBBB, ← e4] at this
       rw [e3,List.length_append,List.length_singleton]
       exact kz this
      ·have e3:za2 T s (k+1)=za2 T s k++[(x,k)]:=by rw [oz HS];rfl
       have e4:zcC (za2 T s k++[(x,k)])=zcC (za2 T s k)++[.int .i64 k]:=by simp [zcC]
       have:=oz HU7
       rw [← e4] at this
       rw [e3,List.length_append,List.length_singleton]
       exact kz this
     case measure =>simp [intOf];omega
  ·have hk':¬ (k:Int) < ((zah s).length:Int):=by omega
   obtain rfl:k=(zah s).length:=by omega
   have hq:=oz HQ
   have hu:=oz HU
   rw [zgh] at hq hu
   have HQ2:=kz hq
   have HU2:=kz hu
   have HBW:=kz ((oz HX1).bl)
   have h1w:=(oz HX1).bl.size
   clear HQ HU hq hu
   go_wp2_with fail
   go_ret2
   have hsz:=(oz HBW).size
   exact ⟨_,_,rfl,za0 (oz HQ2) hsz,za0 (oz HU2) hsz,(oz HBW).trans ((oz HB).mono hsz)⟩
theorem zew (s:ByteArray) (l:List (Nat × Nat)):zc2 s l=(l.map Prod.fst).flatMap (zaz s):=by simp [zc2,List.flatMap_map]
def zkv (s:ByteArray) (n:Nat):ByteArray:=if n < s.size then s.extract 0 n else s
theorem ze2 (s:ByteArray) (n:Nat):(zkv s n).size≤n:=by
 unfold zkv
 split
 ·rw [ByteArray.size_extract];omega
 ·omega
theorem zo2 (s:ByteArray) (hs:s.size≤1000000000) (n:Nat) (hn:n≤1000000) (w:World):Calls Tryz.prog 11 #[.string s,.int .i64 n] w fun e w' =>e=.returned (.string (zkv s n))∧w'=w:=by
 by_cases h:n < s.size
 ·have hv:=kz (show zkv s n=s.extract 0 n from if_pos h)
  have h1:(s.size:Int) > (n:Int):=by omega
  have h2:(n:Int)≤(s.size:Int):=by omega
  have h3:((n:Nat):Int).toNat=n:=by omega
  go_enter Tryz.func11,Tryz.ntmps11
  go_wp2
  go_ret
  exact ⟨by rw [oz hv];rfl,rfl⟩
 ·have hv:=kz (show zkv s n=s from if_neg h)
  have h1:¬ (s.size:Int) > (n:Int):=by omega
  go_enter Tryz.func11,Tryz.ntmps11
  go_wp2
  go_ret
  exact ⟨by rw [oz hv];rfl,rfl⟩
theorem zpI {W:World} {hi:Nat} {a:Option Addr} {l:List (Nat × Nat)} {k:Nat} {x:Nat × Nat} (h:RowC W hi a (zcC l)) (hx:l[k]?=some x):∃ g o,a=some ⟨g,o,none⟩∧g < hi∧W.cell? ⟨g,o+k,none⟩=some (.int .i64 x.2):=by
 have hk:=(List.getElem?_eq_some_iff.1 hx).1
 obtain ⟨g,o,e,hg,hc⟩:=h (by unfold zcC;rw [List.length_map];omega)
 exact ⟨g,o,e,hg,hc k _ (by unfold zcC;rw [List.getElem?_map,hx];rfl)⟩
end
end Go.Proofs.YtmemedpoaocdkaaGreat
