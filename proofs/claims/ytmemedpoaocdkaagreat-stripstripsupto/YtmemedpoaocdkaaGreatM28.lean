/- Texts of this claim, one behind the other. -/
import Derived.Test.YtmemedpoaocdkaaGreatM27
namespace Go.Proofs.YtmemedpoaocdkaaGreat
set_option linter.unusedVariables false
section
open Go.RowKit Go.Shelf Go.Maps
attribute [local go_sem] Oper.semAt_some
set_option maxRecDepth 100000
set_option maxHeartbeats 8000000
def zdv (T:TV) (s:ByteArray) (n:Int):Option (Nat × Nat):=if n < 0 then none else if n=((zal T s).length:Int) then some (s.size,(zah s).length) else (zal T s)[n.toNat]?
structure PlI (w:World) (n m:Nat) (pre:List (Nat × Nat)) (W:World):Prop where
 le:pre.length≤n
 b:Blk W w.heap.size #[.int .i64 n] 3
 p:Blk W (w.heap.size+1) #[.int .i64 0,.int .i64 0] 40
 o:Blk W (w.heap.size+1+1) #[.bool false] 4
 n:Blk W (w.heap.size+1+1+1) #[.int .i64 pre.length] 3
 t:Below w.heap.size w W
theorem PlI.below {w:World} {n m A:Nat} {pre:List (Nat × Nat)} {X Y:World} (h:PlI w n m pre X) (hb:Below A X Y) (hA:w.heap.size+4≤A):PlI w n m pre Y :=
 ⟨h.le,h.b.below hb (by omega),h.p.below hb (by omega),h.o.below hb (by omega),h.n.below hb (by omega),h.t.trans (hb.mono (by omega))⟩
structure PlX (w:World) (n:Nat) (c:Code) (pre:List (Nat × Nat)) (W:World):Prop where
 c:c=.ret
 f:∃ q x,pre=q++[x]∧q.length=n∧Blk W (w.heap.size+1) #[.int .i64 x.1,.int .i64 x.2] 40
 o:Blk W (w.heap.size+1+1) #[.bool true] 4
 t:Below w.heap.size w W
theorem PlX.below {w:World} {n A:Nat} {c:Code} {pre:List (Nat × Nat)} {X Y:World} (h:PlX w n c pre X) (hb:Below A X Y) (hA:w.heap.size+4≤A):PlX w n c pre Y:=by
 obtain ⟨q,x,h1,h2,h4⟩:=h.f
 exact ⟨h.c,⟨q,x,h1,h2,h4.below hb (by omega)⟩,h.o.below hb (by omega),h.t.trans (hb.mono (by omega))⟩
theorem PlI.hit {w:World} {n m:Nat} {pre:List (Nat × Nat)} {X:World} {x:Nat × Nat} (h:PlI w n m pre X) (hx:pre.length=n):PlX w n .ret (pre++[x]) (((X.setCell ⟨w.heap.size+1,0,none⟩ (.int .i64 x.1)).setCell ⟨w.heap.size+1,1,none⟩ (.int .i64 x.2)).setCell ⟨w.heap.size+1+1,0,none⟩ (.bool true)) :=
 ⟨rfl,⟨pre,x,rfl,hx,((h.p.set 0 _).set 1 _).other (by omega) _⟩,((h.o.other (by omega) _).other (by omega) _).set 0 _,
  ((h.t.setCell (p:=⟨w.heap.size+1,0,none⟩) (by simp) _).setCell (p:=⟨w.heap.size+1,1,none⟩) (by simp) _).setCell (p:=⟨w.heap.size+1+1,0,none⟩) (by simp;omega) _⟩
theorem PlI.step {w:World} {n m:Nat} {pre:List (Nat × Nat)} {X:World} {x:Nat × Nat} (h:PlI w n m pre X) (hx:pre.length≠n):PlI w n m (pre++[x]) (X.setCell ⟨w.heap.size+1+1+1,0,none⟩ (.int .i64 ((pre.length:Int)+1))):=by
 refine ⟨?_,h.b.other (by omega) _,h.p.other (by omega) _,h.o.other (by omega) _, ?_,h.t.setCell (p:=⟨w.heap.size+1+1+1,0,none⟩) (by simp;omega) _⟩
 ·have:=h.le
  rw [List.length_append,List.length_singleton]
  omega
 ·rw [show (((pre++[x]).length:Nat):Int)=(pre.length:Int)+1 by simp]
  exact h.n.set 0 _
theorem zhg {T:TV} {s:ByteArray} {n:Int} (h:n < 0):zdv T s n=none:=if_pos h
theorem zhi {T:TV} {s:ByteArray} {n:Nat} (h:(zal T s).length=n):zdv T s (n:Int)=some (s.size,(zah s).length):=by
 unfold zdv
 rw [if_neg (by omega),if_pos (by omega)]
theorem zhh {T:TV} {s:ByteArray} {n:Nat} (h:(zal T s).length < n):zdv T s (n:Int)=none:=by
 unfold zdv
 rw [if_neg (by omega),if_neg (by omega),Int.toNat_natCast]
 exact List.getElem?_eq_none (by omega)
theorem zjw {T:TV} {s:ByteArray} {n:Nat} {q r:List (Nat × Nat)} {x:Nat × Nat} (h:q++[x]++r=zal T s) (hq:q.length=n):zdv T s (n:Int)=some x:=by
 have hl:n < (zal T s).length:=by rw [← h];simp;omega
 unfold zdv
 rw [if_neg (by omega),if_neg (by omega),Int.toNat_natCast, ← h,List.append_assoc,List.getElem?_append_right (by omega)]
 simp [hq]
theorem zk0 (n:Nat) (hn:4≤n) (s:ByteArray) (B:Nat) (k:Int) (hk:k < 0) (w:World):CallsIn Fence.wide n Tryz.prog 16 #[.pointer (some ⟨B,0,none⟩),.string s,.int .i64 k] w fun e w' =>e=.returned (zeh none)∧Below w.heap.size w w':=by
 refine callsIn_of_wp_marks Tryz.func16 rfl trivial ?_ rfl
 simp only [Tryz.ntmps16,List.size_toArray,List.length_cons,List.length_nil,Nat.reduceAdd,Nat.reduceSub,Array.replicate_succ,Array.replicate_zero,List.push_toArray,List.append_toArray,List.nil_append,List.cons_append]
 gi_wp2
 have hb:=((((Below.refl w.heap.size w).alloc (Nat.le_refl _) (.cells #[.int .i64 k] 3)).alloc (by simp) (.cells #[.int .i64 0,.int .i64 0] 40)).alloc (by simp;omega) (.cells #[.bool false] 4))
 have b1:=(Blk.new (w.alloc (.cells #[.int .i64 k] 3)) #[.int .i64 0,.int .i64 0] 40).alloc (.cells #[.bool false] 4)
 have b2:=Blk.new ((w.alloc (.cells #[.int .i64 k] 3)).alloc (.cells #[.int .i64 0,.int .i64 0] 40)) #[.bool false] 4
 simp only [World.size_alloc] at b1 b2
 have c0:=b1.cell 0
 have c1:=b1.cell 1
 have c3:=b2.cell 0
 refine ⟨.tuple #[.agg #[.int .i64 0,.int .i64 0],.bool false], ?_,rfl,hb⟩
 simp [results,Tryz.f16,go_sem]
theorem zoC (n:Nat) (hn:4≤n) (T:TV) (hO:zav T) (s:ByteArray) (hs:s.size≤1000000000000) (k:Nat) (hk:k≤9223372036854775807) (B:Nat) (w:World) (hbk:BookAt w B T) :
  CallsIn Fence.wide n Tryz.prog 16 #[.pointer (some ⟨B,0,none⟩),.string s,.int .i64 k] w fun e w' =>e=.returned (zeh (zdv T s k))∧Below w.heap.size w w':=by
 have h1:1≤n:=by omega
 have hsm:s.size≤maxLen:=by unfold maxLen;omega
 have hsl:(zah s).length≤s.size:=zap s
 have hsn:=zb9 T s
 have hk0:¬ ((k:Int) < 0):=by omega
 refine callsIn_of_wp_marks Tryz.func16 rfl trivial ?_ rfl
 simp only [Tryz.ntmps16,List.size_toArray,List.length_cons,List.length_nil,Nat.reduceAdd,Nat.reduceSub,Array.replicate_succ,Array.replicate_zero,List.push_toArray,List.append_toArray,List.nil_append,List.cons_append]
 gi_wp2_with (refine ⟨trivial, ?_⟩;gi_at_call 22;refine (callsIn_wide.2 (zcS B s _)).mono ?_;rintro e w' ⟨rfl,rfl⟩)
 rename_i K1 hK1
 have hK1':=kz hK1
 clear hK1
 obtain ⟨Wa,hWa⟩:∃ Wa,Wa=(((w.alloc (.cells #[.int .i64 k] 3)).alloc (.cells #[.int .i64 0,.int .i64 0] 40)).alloc (.cells #[.bool false] 4)).alloc (.cells #[.int .i64 0] 3):=⟨_,rfl⟩
 have hIa:PlI w k 0 [] Wa:=by
  rw [hWa]
  have b0:=(((Blk.new w #[.int .i64 k] 3).alloc (.cells #[.int .i64 0,.int .i64 0] 40)).alloc (.cells #[.bool false] 4)).alloc (.cells #[.int .i64 0] 3)
  have b1:=((Blk.new (w.alloc (.cells #[.int .i64 k] 3)) #[.int .i64 0,.int .i64 0] 40).alloc (.cells #[.bool false] 4)).alloc (.cells #[.int .i64 0] 3)
  have b2:=(Blk.new ((w.alloc (.cells #[.int .i64 k] 3)).alloc (.cells #[.int .i64 0,.int .i64 0] 40)) #[.bool false] 4).alloc (.cells #[.int .i64 0] 3)
  have b3:=Blk.new (((w.alloc (.cells #[.int .i64 k] 3)).alloc (.cells #[.int .i64 0,.int .i64 0] 40)).alloc (.cells #[.bool false] 4)) #[.int .i64 0] 3
  simp only [World.size_alloc] at b1 b2 b3
  exact ⟨Nat.zero_le _,b0,b1,b2,b3,(((((Below.refl w.heap.size w).alloc (Nat.le_refl _) _).alloc (by simp) _).alloc (by simp;omega) _).alloc (by simp;omega) _)⟩
 have hza:Wa.heap.size=w.heap.size+1+1+1+1:=by rw [hWa];simp
 rw [← hWa]
 clear hWa
 have hsq:SeQ w B Wa.heap.size (Wa.heap.size+1) T s _:=SeQ.new hIa.t 29 9
 have hI:PlI w k 0 [] ((Wa.alloc (.cells #[.pointer (some ⟨B,0,none⟩)] 29)).alloc (.cells #[.string s] 9)):=hIa.below (((Below.refl Wa.heap.size Wa).alloc (Nat.le_refl _) _).alloc (by simp) _) (by omega)
 have hz0:w.heap.size+6≤((Wa.alloc (.cells #[.pointer (some ⟨B,0,none⟩)] 29)).alloc (.cells #[.string s] 9)).heap.size:=by simp;omega
 rw [hza] at hsq
 generalize (Wa.alloc (.cells #[.pointer (some ⟨B,0,none⟩)] 29)).alloc (.cells #[.string s] 9)=W0 at *
 clear hza hIa
 refine zdu rfl h1 (gf:=45) (lb:=#[.pointer (some ⟨w.heap.size+1+1+1+1,0,none⟩),.pointer (some ⟨w.heap.size+1+1+1+1+1,0,none⟩)]) rfl trivial (enters_of Tryz.func45 (by kernel_rfl) rfl)
  (zeP (n - 1) (w.heap.size+1+1+1+1) (w.heap.size+1+1+1+1+1) B (by omega) T hO s hsm w W0 hbk hsq (by omega)) KpQ.trans (fun W l o hl =>KpQ.put W l o (by omega) (by omega) (by omega)) (Below.refl _ _) (fun _ =>rfl)
  (PlI w k 0) (PlX w k) (fun p X Y h hb =>h.below hb (by omega)) (fun c p X Y h hb =>h.below hb (by omega)) hI ?round ?done ?stop
 case round =>
  rintro pre x W hIW hpx hge
  have hal:=(Below.refl W.heap.size W).alloc (Nat.le_refl _) (.cells #[.int .i64 x.1,.int .i64 x.2] 40)
  have hX:=Blk.new W #[.int .i64 x.1,.int .i64 x.2] 40
  have hpl:pre.length < s.size:=by
   have h2:=zfZ hpx
   rw [List.length_append,List.length_singleton] at h2
   omega
  dsimp only [zdC]
  gi_wp2
  refine ⟨Above.below hal,KpQ.below hal (by omega) (by omega) (by omega),hIW.below hal (by omega), ?_⟩
  intro Wr hgr hsr hIr
  have hXr:=hX.kept hgr (by simp;omega)
  obtain ⟨PX,hPX⟩:∃ PX,PX=W.heap.size:=⟨_,rfl⟩
  rw [← hPX] at hXr
  rw [← hPX]
  have hsr2:Wr.heap.size=PX+1:=by rw [hsr,hPX];simp
  have hge2:W0.heap.size+2≤PX:=by omega
  clear hPX hsr hgr hX hal hge hIW hI hsq
  have x0:Wr.cell? ⟨PX,0,none⟩=some (.int .i64 x.1):=hXr.cell 0
  have x1:Wr.cell? ⟨PX,1,none⟩=some (.int .i64 x.2):=hXr.cell 1
  have c0:=hIr.b.cell 0
  have p0:=hIr.p.cell 0
  have p1:=hIr.p.cell 1
  have o0:=hIr.o.cell 0
  have n0:=hIr.n.cell 0
  have pf:=hIr.p.frozen
  have of:=hIr.o.frozen
  have nf:=hIr.n.frozen
  by_cases hc:pre.length=k
  ·have HX:=kz (hIr.hit (x:=x) hc)
   have he:((pre.length:Int) == (k:Int))=true:=by simp [hc]
   have HC:=kz hc
   clear hc hIr hXr
   gi_wp2
   exact ⟨zgV (Above.refl _ _) (by omega) _ _ _,oz HX⟩
  ·have HX:=kz (hIr.step (x:=x) hc)
   have he:((pre.length:Int) == (k:Int))=false:=by simp;omega
   clear hc hIr hXr
   gi_wp2
   exact ⟨(Above.refl _ _).set (by omega) _,KpQ.set _ _ (by omega) (by omega) (by omega),oz HX⟩
 case done =>
  rintro D ys W hD hys hIW hK
  subst hys
  have hB:=hIW.t
  have k2:=hIW.p
  have k3:=hIW.o
  have q0:=hIW.b.cell 0
  have n0:=hIW.n.cell 0
  have c0:=k2.cell 0
  have c1:=k2.cell 1
  have c3:=k3.cell 0
  have f0:=k2.frozen
  have f3:=k3.frozen
  have hle:=hIW.le
  clear hIW hI hsq
  apply oz hK1'
  by_cases hc:(zal T s).length < k
  ·have HV:=kz (zhh hc)
   have hc2:decide (((zal T s).length:Int) < (k:Int))=true:=by simpa using hc
   gi_wp2
   have hK':=(((KeepsOthers.setCell W ⟨w.heap.size+1,0,none⟩ (.int .i64 0)).trans (KeepsOthers.setCell _ ⟨w.heap.size+1,1,none⟩ (.int .i64 0))).trans (KeepsOthers.setCell _ ⟨w.heap.size+1+1,0,none⟩ (.bool false))).same D _ hK rfl
   have k2':=Blk.other (i:=0) ((k2.set 0 (.int .i64 0)).set 1 (.int .i64 0)) (B':=w.heap.size+1+1) (by omega) (.bool false)
   have k3':=((k3.other (B':=w.heap.size+1) (i:=0) (by omega) (.int .i64 0)).other (B':=w.heap.size+1) (i:=1) (by omega) (.int .i64 0)).set 0 (.bool false)
   have hB':=((hB.setCell (p:=⟨w.heap.size+1,0,none⟩) (by simp) (.int .i64 0)).setCell (p:=⟨w.heap.size+1,1,none⟩) (by simp) (.int .i64 0)).setCell (p:=⟨w.heap.size+1+1,0,none⟩) (by simp;omega) (.bool false)
   clear hK k2 k3 hB c0 c1 c3 f0 f3
   refine ⟨by simp,.inl ⟨_,_,rfl,run_takeDeferred hK', ?_⟩⟩
   have q2:=k2'.put (.deferred Option.none) hK' rfl
   have q3:=k3'.put (.deferred Option.none) hK' rfl
   have c0:=q2.cell 0
   have c1:=q2.cell 1
   have c3:=q3.cell 0
   refine ⟨.tuple #[.agg #[.int .i64 0,.int .i64 0],.bool false], ?_,by rw [oz HV];rfl,hB'.trans (belowK_b (w:=w) (Nat.le_refl _) _ D _ _ (by omega) hK' rfl rfl)⟩
   simp [results,Tryz.f16,go_sem,c0,c1,c3]
  ·have hek:(zal T s).length=k:=by omega
   have HV:=kz (zhi hek)
   have hc2:decide (((zal T s).length:Int) < (k:Int))=false:=by simpa using hc
   have HCT:=kz (zgJ s hsm)
   have HK:=kz hK
   have HB:=kz hB
   have H2:=kz k2
   have H3:=kz k3
   clear hK hB k2 k3
   gi_wp2_with fail
   refine ⟨trivial, ?_⟩
   refine (callsIn_wide.2 (oz HCT W)).mono ?_
   rintro e W3 ⟨rfl,hb3⟩
   have k2:=(oz H2).below hb3 (oz H2).lt
   have k3:=(oz H3).below hb3 (oz H3).lt
   have hB:=(oz HB).trans (hb3.mono (oz HB).size)
   have hK:=(hb3.block D (Array.getElem?_eq_some_iff.1 (oz HK)).1).trans (oz HK)
   clear hb3 c0 c1 c3 f0 f3 q0 n0
   have c0:=k2.cell 0
   have c1:=k2.cell 1
   have c3:=k3.cell 0
   have f0:=k2.frozen
   have f3:=k3.frozen
   gi_wp2
   have hK':=(((KeepsOthers.setCell W3 ⟨w.heap.size+1,0,none⟩ (.int .i64 s.size)).trans (KeepsOthers.setCell _ ⟨w.heap.size+1,1,none⟩ (.int .i64 (zah s).length))).trans (KeepsOthers.setCell _ ⟨w.heap.size+1+1,0,none⟩ (.bool true))).same D _ hK rfl
   have k2':=Blk.other (i:=0) ((k2.set 0 (.int .i64 s.size)).set 1 (.int .i64 (zah s).length)) (B':=w.heap.size+1+1) (by omega) (.bool true)
   have k3':=((k3.other (B':=w.heap.size+1) (i:=0) (by omega) (.int .i64 s.size)).other (B':=w.heap.size+1) (i:=1) (by omega) (.int .i64 (zah s).length)).set 0 (.bool true)
   have hB':=((hB.setCell (p:=⟨w.heap.size+1,0,none⟩) (by simp) (.int .i64 s.size)).setCell (p:=⟨w.heap.size+1,1,none⟩) (by simp) (.int .i64 (zah s).length)).setCell (p:=⟨w.heap.size+1+1,0,none⟩) (by simp;omega) (.bool true)
   clear hK k2 k3 hB c0 c1 c3 f0 f3
   refine ⟨by simp,.inl ⟨_,_,rfl,run_takeDeferred hK', ?_⟩⟩
   have q2:=k2'.put (.deferred Option.none) hK' rfl
   have q3:=k3'.put (.deferred Option.none) hK' rfl
   have c0:=q2.cell 0
   have c1:=q2.cell 1
   have c3:=q3.cell 0
   refine ⟨.tuple #[.agg #[.int .i64 s.size,.int .i64 (zah s).length],.bool true], ?_,by rw [oz HV];rfl,hB'.trans (belowK_b (w:=w) (Nat.le_refl _) _ D _ _ (by omega) hK' rfl rfl)⟩
   simp [results,Tryz.f16,go_sem,c0,c1,c3]
 case stop =>
  rintro D c pre W hD hpre hX hK
  obtain ⟨rfl,⟨q,x,rfl,hq,k2⟩,k3,hB⟩:=hX
  obtain ⟨r,hr⟩:=hpre
  have HV:=kz (zjw hr hq)
  clear hr hq hI hsq
  gi_wp2
  refine ⟨by simp,.inl ⟨_,_,rfl,run_takeDeferred hK, ?_⟩⟩
  have q2:=k2.put (.deferred Option.none) hK rfl
  have q3:=k3.put (.deferred Option.none) hK rfl
  have c0:=q2.cell 0
  have c1:=q2.cell 1
  have c3:=q3.cell 0
  refine ⟨.tuple #[.agg #[.int .i64 x.1,.int .i64 x.2],.bool true], ?_,by rw [oz HV];rfl,hB.trans (belowK_b (w:=w) (Nat.le_refl _) _ D _ _ (by omega) hK rfl rfl)⟩
  simp [results,Tryz.f16,go_sem,c0,c1,c3]
theorem zk1 (T:TV) (hO:zav T) (s:ByteArray) (hs:s.size≤1000000000000) (k:Int) (hk:k≤9223372036854775807) (B:Nat) (w:World) (hbk:BookAt w B T) :
  Calls Tryz.prog 16 #[.pointer (some ⟨B,0,none⟩),.string s,.int .i64 k] w fun e w' =>e=.returned (zeh (zdv T s k))∧Below w.heap.size w w':=by
 by_cases h:k < 0
 ·rw [zhg h]
  exact callsIn_wide.1 (zk0 4 (Nat.le_refl _) s B k h w)
 ·obtain ⟨m,rfl⟩:∃ m:Nat,k=(m:Int):=⟨k.toNat,by omega⟩
  exact callsIn_wide.1 (zoC 4 (Nat.le_refl _) T hO s hs m (by omega) B w hbk)
def zox (T:TV) (s t:ByteArray):Bool:=(zbw T s).toList == (zbw T t).toList
theorem zmg (T:TV) (hO:zav T) (s t:ByteArray) (hs:s.size≤1000000000000) (ht:t.size≤1000000000000) (B:Nat) (w:World) (hbk:BookAt w B T) :
  Calls Tryz.prog 21 #[.pointer (some ⟨B,0,none⟩),.string s,.string t] w fun e w' =>e=.returned (.bool (zox T s t))∧Below w.heap.size w w':=by
 have H1:=kz (zcM T hO s hs B w hbk)
 have H2:=kz (fun w1 (h:Below w.heap.size w w1) =>zcM T hO t ht B w1 (hbk.below h))
 have HV:=kz (show ((zbw T s).toList == (zbw T t).toList)=zox T s t from rfl)
 clear hbk
 generalize zbw T s=S1 at *
 generalize zbw T t=S2 at *
 generalize zox T s t=a at *
 go_enter Tryz.func21,Tryz.ntmps21
 go_wp2_with fail
 refine (oz H1).mono ?_
 rintro e w1 ⟨rfl,hb1⟩
 have HB1:=kz hb1
 have H3:=kz (oz H2 w1 hb1)
 clear hb1
 go_wp2_with fail
 refine (oz H3).mono ?_
 rintro e w2 ⟨rfl,hb2⟩
 have HB2:=kz ((oz HB1).trans (hb2.mono (oz HB1).size))
 clear hb2
 go_wp2
 go_ret
 exact ⟨by rw [← oz HV];rfl,oz HB2⟩
attribute [local go_sem] Oper.semAt_some
end
section
open Go.RowKit Go.Shelf Go.Maps
theorem zmj:zbw HT ⟨#[97,226,128,141,98,255]⟩=⟨#[97,98,239,191,189]⟩:=by decide +kernel
theorem zmi:(zah ⟨#[226,128,141,97,226,128,141]⟩).length - (zal HT ⟨#[226,128,141,97,226,128,141]⟩).length=2:=by decide +kernel
theorem zgC (w:World):Calls Tryz.prog 10 #[] w fun e w' =>e=.returned (.bool true)∧Below w.heap.size w w':=by
 go_enter Tryz.func10,Tryz.ntmps10
 go_wp2_with fail
 refine (ziS w).mono ?_
 rintro e w1 ⟨v,rfl,hv,hb1⟩
 have HB1:=kz hb1
 have HC:=kz (zgv v w1 hv)
 clear hv hb1
 go_wp2_with fail
 refine (oz HC).mono ?_
 rintro e w2 ⟨B,rfl,hO,_,hbk,hb2⟩
 have HB2:=kz ((oz HB1).trans (hb2.mono (oz HB1).size))
 have H1:=zcM HT hO ⟨#[97,226,128,141,98,255]⟩ (by decide) B w2 hbk
 rw [zmj] at H1
 have HH1:=kz H1
 have H2:=kz (fun w3 (h:Below w2.heap.size w2 w3) =>zex HT hO ⟨#[226,128,141,97,226,128,141]⟩ (by decide) B w3 (hbk.below h))
 rw [zmi] at H2
 clear hb2 hbk H1
 go_wp2_with fail
 refine (oz HH1).mono ?_
 rintro e w3 ⟨rfl,hb3⟩
 have HH2:=kz (oz H2 w3 hb3)
 have HB3:=kz ((oz HB2).trans (hb3.mono (oz HB2).size))
 clear hb3 H2
 go_wp2_with fail
 refine (oz HH2).mono ?_
 rintro e w4 ⟨rfl,hb4⟩
 have HB4:=kz ((oz HB3).trans (hb4.mono (oz HB3).size))
 clear hb4
 go_wp2
 go_ret
 exact ⟨rfl,oz HB4⟩
end
section
open Go.RowKit Go.Shelf Go.Maps
attribute [local go_sem] Oper.semAt_some
end
section
open Go.RowKit Go.Shelf Go.Maps
theorem zgI {T:TV} (h:(zcJ T).1=0):drB T 65533=false:=by
 have h:=zdc h
 simp only [List.forall_mem_cons] at h
 obtain ⟨_,_,_,_,_,_,_,_,h9,_⟩:=h
 have h9:=zdc h9
 simp only [List.forall_mem_cons] at h9
 obtain ⟨_,_,_,_,_,h8,_⟩:=h9
 have h8:(zaG 7 T.dr.length (fun i =>drF (T.dr.getD i ma0))).1=0:=h8
 rcases zcm 7 T.dr.length (fun i =>drF (T.dr.getD i ma0)) with ⟨k,_,_,hk,e⟩ | ⟨h0,_⟩
 ·rw [e] at h8
  exact absurd h8 hk
 ·unfold drB zam
  rw [Bool.and_eq_false_iff]
  left
  rw [List.any_eq_false]
  intro x hx
  obtain ⟨i,hi,rfl⟩:=List.getElem_of_mem hx
  have:=h0 i hi
  simp only [List.getD,List.getElem?_eq_getElem hi,Option.getD_some] at this
  unfold drF at this
  intro hc
  have hc:=of_decide_eq_true hc
  rw [if_pos (.inr hc)] at this
  omega
theorem zbb (s:ByteArray):∀ (l:List Nat) (k x j:Nat),l[k]?=some x→j < 4→(l.flatMap (zaz s))[k*4+j]?=(zaz s x)[j]?
 | [],k,x,j,h,hj =>by simp at h
 | a::l,0,x,j,h,hj =>by
  simp at h
  subst h
  rw [List.flatMap_cons,List.getElem?_append_left (by simp [zaz];omega)]
  simp
 | a::l,k+1,x,j,h,hj =>by
  rw [List.getElem?_cons_succ] at h
  rw [List.flatMap_cons,List.getElem?_append_right (by simp [zaz];omega)]
  rw [show (k+1)*4+j - (zaz s a).length=k*4+j by simp [zaz];omega]
  exact zbb s l k x j h hj
theorem zcU {W:World} {hi:Nat} {a:Option Addr} {s:ByteArray} {zs:List Nat} {k x:Nat} (h:RowC W hi a (zs.flatMap (zaz s))) (hx:zs[k]?=some x) :
  ∃ g o,a=some ⟨g,o,none⟩∧g < hi∧W.cell? ⟨g,o+k*4,none⟩=some (.int .i32 (rn s x))∧W.cell? ⟨g,o+k*4+1,none⟩=some (.int .i64 x)∧W.cell? ⟨g,o+k*4+2,none⟩=some (.int .i64 (wd s x))∧W.cell? ⟨g,o+k*4+3,none⟩=some (.bool (zdm s x)):=by
 have e0:=zbb s zs k x 0 hx (by decide)
 have e1:=zbb s zs k x 1 hx (by decide)
 have e2:=zbb s zs k x 2 hx (by decide)
 have e3:=zbb s zs k x 3 hx (by decide)
 obtain ⟨g,o,e,hg,hc⟩:=h (by have:=(List.getElem?_eq_some_iff.1 (e0.trans rfl)).1;omega)
 exact ⟨g,o,e,hg,hc _ _ (e0.trans rfl),by have:=hc _ _ (e1.trans rfl);rwa [← Nat.add_assoc] at this,by have:=hc _ _ (e2.trans rfl);rwa [← Nat.add_assoc] at this,by have:=hc _ _ (e3.trans rfl);rwa [← Nat.add_assoc] at this⟩
theorem zbF {W:World} {lo E sz n lo' E' sz' n':Nat} {v u:Value} {xs ys:List Value} (h:W.ownsRow lo E sz v n xs) (k:W.ownsRow lo' E' sz' u n' ys) (hE:E≠E'):v.ownBlock=none∨v.ownBlock≠u.ownBlock:=by
 rcases h.2 with ⟨rfl,_⟩ | ⟨g,cap,cur,rfl,_,hg,_⟩
 ·exact .inl rfl
 ·rcases k.2 with ⟨rfl,_⟩ | ⟨g',cap',cur',rfl,_,hg',_⟩
  ·exact .inr (by simp [Value.ownBlock])
  ·refine .inr fun e =>?_
   obtain rfl:g=g':=by simpa [Value.ownBlock] using e
   rw [hg] at hg'
   injection hg' with hg'
   injection hg' with _ h2
   exact hE h2
def za2 (T:TV) (s:ByteArray) (k:Nat):List (Nat × Nat):=((spN s).take k).filter (zaS T s)
theorem zgh (T:TV) (s:ByteArray):za2 T s (zah s).length=zal T s:=by
 unfold za2 zal
 rw [List.take_of_length_le (by unfold spN;simp)]
theorem zfn {T:TV} {s:ByteArray} {k x:Nat} (h:(zah s)[k]?=some x):za2 T s (k+1)=za2 T s k++(if drB T (rn s x) then [] else [(x,k)]):=by
 have h1:(spN s)[k]?=some (x,k):=by unfold spN;rw [List.getElem?_zipIdx,h];simp
 unfold za2
 rw [List.take_add_one,h1,List.filter_append]
 congr 1
 show List.filter _ [(x,k)]=_
 cases hd:drB T (rn s x) with
 | true =>rw [List.filter_cons_of_neg (by unfold zaS;rw [hd];decide)];rfl
 | false =>rw [List.filter_cons_of_pos (by unfold zaS;rw [hd];rfl)];rfl
theorem zhQ (T:TV) (s:ByteArray) (k:Nat):(za2 T s k).length≤(zah s).length:=by
 unfold za2
 refine Nat.le_trans (List.length_filter_le _ _) ?_
 rw [List.length_take]
 unfold spN
 simp
 omega
theorem zjQ:(Tryz.prog.info? 3).map (fun i =>(i.zero,i.size,i.bytes))=some (some (.int .i64 0),1,8):=by kernel_rfl
set_option maxRecDepth 100000
set_option maxHeartbeats 8000000
abbrev zc2 (s:ByteArray) (l:List (Nat × Nat)):List Value:=l.flatMap fun x =>zaz s x.1
abbrev zcC (l:List (Nat × Nat)):List Value:=l.map fun x =>Value.int .i64 x.2
theorem zcV (T:TV) (hT:TabB T) (h65:drB T 65533=false) (A:TbA) (s:ByteArray) (hs:s.size≤1000000) (W:World) (hA:zfM W T A) :
  Calls Tryz.prog 13 #[.agg #[.slice A.a0 T.sc.length A.c0,.slice A.a1 T.co.length A.c1,.slice A.a2 T.ma.length A.c2,.slice A.a3 T.pr.length A.c3,.slice A.a4 T.fo.length A.c4,.slice A.a5 T.lk.length A.c5,.slice A.a6 T.dr.length A.c6,.slice A.a7 T.al.length A.c7],.string s] W fun e w' => ∃ v u,e=.returned (.tuple #[v,u])∧w'.ownsRow W.heap.size 56 4 v (zal T s).length (zc2 s (zal T s))∧w'.ownsRow W.heap.size 3 1 u (zal T s).length (zcC (zal T s))∧Below W.heap.size W w':=by
 obtain ⟨i0,hi,hz0,hz1,hz2⟩:=info_parts zh0
 have HI:=kz hi
 have HZ0:=kz hz0
 have HZ1:=kz hz1
 have HZ2:=kz hz2
 obtain ⟨j0,hi',hz0',hz1',hz2'⟩:=info_parts zjQ
 have HJ:=kz hi'
 have HY0:=kz hz0'
 have HY1:=kz hz1'
 have HY2:=kz hz2'
 clear hi hz0 hz1 hz2 hi' hz0' hz1' hz2'
 have hdr:T.dr.length≤1048576:=hT.n6
 have HX:=kz (TbX.start hA)
 have hst:=zap s
 have H65:=kz h65
 clear hA hT h65
 go_enter Tryz.func13,Tryz.ntmps13
 go_wp2_with fail
 generalize W.alloc (.cells #[.slice A.a0 T.sc.length A.c0,.slice A.a1 T.co.length A.c1,.slice A.a2 T.ma.length A.c2,.slice A.a3 T.pr.length A.c3,.slice A.a4 T.fo.length A.c4,.slice A.a5 T.lk.length A.c5,.slice A.a6 T.dr.length A.c6,.slice A.a7 T.al.length A.c7] 28)=w0 at *
 refine (zcr s (by omega) w0).mono ?_
 rintro e w1 ⟨v0,rfl,hown,hb⟩
 obtain ⟨a0,c0,rfl⟩:=zas hown
 have HX1:=kz ((oz HX).below hb)
 have HP1:=kz (zbg hown)
 clear HX hb hown
 go_wp2_with fail
 go_loopw [6,7,9] (fun v u i wr => ∃ k:Nat,i=.int .i64 k∧k≤(zah s).length∧Hz (wr.ownsRow w1.heap.size 56 4 v (za2 T s k).length (zc2 s (za2 T s k)))∧Hz (wr.ownsRow w1.heap.size 3 1 u (za2 T s k).length (zcC (za2 T s k)))∧Hz (Below w1.heap.size w1 wr))
  (fun _ _ i _ =>(zah s).length - (intOf i).toNat)
 case atStart =>exact ⟨0,rfl,Nat.zero_le _,kz (World.ownsRow_nil _ _ _ _),kz (World.ownsRow_nil _ _ _ _),kz (Below.refl _ _)⟩
 case round =>
  obtain ⟨k,rfl,hk,HQ,HU,HB⟩:=hrel
  by_cases hkn:k < (zah s).length
  ·have hk':(k:Int) < ((zah s).length:Int):=by omega
   obtain ⟨x,hx⟩:∃ x,(zah s)[k]?=some x:=⟨_,List.getElem?_eq_getElem hkn⟩
   have hkl:=zhQ T s k
   have HS:=kz (zfn (T:=T) hx)
   have HX2:=kz ((oz HX1).below (oz HB))
   have HP:=kz ((oz HP1).below (oz HB) (Nat.le_refl _))
   obtain ⟨g',o',ea,hg,s0,s1,s2,s3⟩:=zcU (oz HP) hx
   have c0:=cell_regrown s0
   have c3:=cell_regrown s3
   have z6:=cell_regrown (oz HX2).z6
   clear s0 s1 s2 s3
   subst ea
   cases hb:zdm s x with
   | true =>
    rw [hb] at c3
    have hd2:drB T (rn s x)=false:=by
     have:rn s x=65533:=(of_decide_eq_true hb).1
     rw [this]
     exact oz H65
    rw [hd2] at HS
    clear hb
    go_wp2_with fail
    refine wp_region_quiet_below (by kernel_rfl) (by kernel_rfl) ?_
    repeat (go_big_quiet_step (exact Calls.regrown_of ((zbk T.dr hdr A.a6 A.c6 (rn s x) _ ((oz HX2).ti.r6.below (below_regrown wr _ _) (below_regrown wr _ _).size)).mono (fun e w2 h =>⟨h.1,h.2 ▸ Below.refl _ _⟩))))
    first | refine wpQuiet_nil ?_ | skip
    rintro w' ⟨dq,rfl⟩
    have hbr:=below_regrown wr dq.d dq.os
    generalize Go.Sort.grow (redrawn wr dq.d) dq.os=w5 at *
    have HP5:=kz ((oz HP).below (hbr.mono (oz HB).size) (Nat.le_refl _))
    have HQ5:=kz (zaq (oz HQ) hbr)
    have HU5:=kz (zaq (oz HU) hbr)
    have HB5:=kz ((oz HB).trans (hbr.mono (oz HB).size))
    clear HP HQ HU HB hbr c3 c0 z6
    obtain ⟨g,o,ea,hg,s0,s1,s2,s3⟩:=zcU (oz HP5) hx
    obtain ⟨rfl,rfl⟩:g=g'∧o=o':=by cases ea;exact ⟨rfl,rfl⟩
    clear ea
    obtain ⟨bb,hbb⟩:∃ bb,bb=zdm s x:=⟨_,rfl⟩
    rw [← hbb] at s3
    have HBBB:=kz hbb
    clear hbb
    have hln:=zdy w5 (.int .i32 (rn s x)) (.int .i64 x) (.int .i64 (wd s x)) (.bool bb) 56
    have HLN:=kz hln
    clear hln
    go_wp2_with (at_builtin;refine wpList_append_own _ rfl _ _ 35 rfl w1.heap.size 56 i0 (.agg #[.int .i32 0,.int .i64 0,.int .i64 0,.bool false]) 4 32 Tryz.underlying35 (oz HI) (oz HZ0) (oz HZ1) (oz HZ2) rfl (by decide) _ _ _ rfl ((oz HQ5).alloc _) ⟨w5.heap.size,0,none⟩ 1 1 [.int .i32 (rn s x),.int .i64 x,.int .i64 (wd s x),.bool bb] rfl rfl ?c1 ?c2 ?c3 ?c4 ?c5 ?_)
    case c1 =>have:=oz HLN;simpa using this
    case c2 =>intro u hu;simp at hu;rcases hu with rfl | rfl | rfl | rfl <;> rfl
    case c3 =>unfold maxLen;omega
    case c4 =>omega
    case c5 =>have:=(oz HB5).size;simp;omega
    intro v6 w6 hown6 hgrow6 _
    have ho:=zbF (oz HU5) (oz HQ5) (by decide)
    have HU6:=kz (((oz HU5).alloc (.cells #[.int .i32 (rn s x),.int .i64 x,.int .i64 (wd s x),.bool bb] 56)).kept hgrow6 ho)
    have HQ6:=kz hown6
    have hlt:=zez (oz HQ5)
    have HB6:=kz (((oz HB5).alloc (oz HB5).size (.cells #[.int .i32 (rn s x),.int .i64 x,.int .i64 (wd s x),.bool bb] 56)).grown hgrow6 (by have:=(oz HB5).size;simp;omega) (fun j ej =>(hlt j ej).1))
    clear hown6 hgrow6 ho HQ5 HU5 HB5 HLN hlt s0 s1 s2 s3
    go_wp2_with (at_builtin;refine wpList_append_own _ rfl _ _ 36 rfl w1.heap.size 3 j0 (.int .i64 0) 1 8 Tryz.underlying36 (oz HJ) (oz HY0) (oz HY1) (oz HY2) rfl (by decide) _ _ _ rfl ((oz HU6).alloc _) ⟨w6.heap.size,0,none⟩ 1 1 [.int .i64 k] rfl rfl ?d1 ?d2 ?d3 ?d4 ?d5 ?_)
    case d1 =>
     intro j u hj
     match j,hj with
     | 0,hj =>simp at hj;subst hj;simp [Addr.add]
    case d2 =>intro u hu;simp at hu;subst hu;rfl
    case d3 =>unfold maxLen;omega
    case d4 =>omega
    case d5 =>have:=(oz HB6).size;simp;omega
    intro u7 w7 hown7 hgrow7 _
    have ho:=zbF (oz HQ6) (oz HU6) (by decide)
    have HQ7:=kz (((oz HQ6).alloc (.cells #[.int .i64 k] 3)).kept hgrow7 ho)
    have HU7:=kz hown7
    have hlt:=zez (oz HU6)
    have HB7:=kz (((oz HB6).alloc (oz HB6).size (.cells #[.int .i64 k] 3)).grown hgrow7 (by have:=(oz HB6).size;simp;omega) (fun j ej =>(hlt j ej).1))
    clear hown7 hgrow7 ho HQ6 HU6 HB6 hlt
    go_wp2_with fail
    go_roundw
    case rel =>
     refine ⟨k+1,by go_num,by omega, ?_, ?_,HB7⟩
     ·have e3:za2 T s (k+1)=za2 T s k++[(x,k)]:=by rw [oz HS];rfl
      have e4:zc2 s (za2 T s k++[(x,k)])=zc2 s (za2 T s k)++[.int .i32 (rn s x),.int .i64 x,.int .i64 (wd s x),.bool (zdm s x)]:=by simp [zc2,zaz,zdm]
      have:=oz HQ7
      rw [oz HBBB, ← e4] at this
      rw [e3,List.length_append,List.length_singleton]
      exact kz this
     ·have e3:za2 T s (k+1)=za2 T s k++[(x,k)]:=by rw [oz HS];rfl
      have e4:zcC (za2 T s k++[(x,k)])=zcC (za2 T s k)++[.int .i64 k]:=by simp [zcC]
      have:=oz HU7
      rw [← e4] at this
      rw [e3,List.length_append,List.length_singleton]
      exact kz this
    case measure =>simp [intOf];omega
   | false =>
    rw [hb] at c3
    clear hb
    cases hd:zam T.dr (rn s x) with
    | true =>
     have hd2:drB T (rn s x)=true:=hd
     rw [hd2] at HS
     go_wp2_with fail
     refine wp_region_quiet_below (by kernel_rfl) (by kernel_rfl) ?_
     repeat (go_big_quiet_step (exact Calls.regrown_of ((zbk T.dr hdr A.a6 A.c6 (rn s x) _ ((oz HX2).ti.r6.below (below_regrown wr _ _) (below_regrown wr _ _).size)).mono (fun e w2 h =>⟨h.1,h.2 ▸ Below.refl _ _⟩))))
     first | refine wpQuiet_nil ?_ | skip
     rintro w' ⟨dq,rfl⟩
     have hbr:=below_regrown wr dq.d dq.os
     generalize Go.Sort.grow (redrawn wr dq.d) dq.os=w5 at *
     have HP5:=kz ((oz HP).below (hbr.mono (oz HB).size) (Nat.le_refl _))
     have HQ5:=kz (zaq (oz HQ) hbr)
     have HU5:=kz (zaq (oz HU) hbr)
     have HB5:=kz ((oz HB).trans (hbr.mono (oz HB).size))
     clear HP HQ HU HB hbr c3 c0 z6
     go_wp2_with fail
     go_roundw
     case rel =>
      refine ⟨k+1,by go_num,by omega, ?_, ?_,HB5⟩
      ·rw [oz HS]
       exact kz (by simpa using oz HQ5)
      ·rw [oz HS]
       exact kz (by simpa using oz HU5)
     case measure =>simp [intOf];omega
    | false =>
     have hd2:drB T (rn s x)=false:=hd
     rw [hd2] at HS
     go_wp2_with fail
     refine wp_region_quiet_below (by kernel_rfl) (by kernel_rfl) ?_
     repeat (go_big_quiet_step (exact Calls.regrown_of ((zbk T.dr hdr A.a6 A.c6 (rn s x) _ ((oz HX2).ti.r6.below (below_regrown wr _ _) (below_regrown wr _ _).size)).mono (fun e w2 h =>⟨h.1,h.2 ▸ Below.refl _ _⟩))))
     first | refine wpQuiet_nil ?_ | skip
     rintro w' ⟨dq,rfl⟩
     have hbr:=below_regrown wr dq.d dq.os
     generalize Go.Sort.grow (redrawn wr dq.d) dq.os=w5 at *
     have HP5:=kz ((oz HP).below (hbr.mono (oz HB).size) (Nat.le_refl _))
     have HQ5:=kz (zaq (oz HQ) hbr)
     have HU5:=kz (zaq (oz HU) hbr)
     have HB5:=kz ((oz HB).trans (hbr.mono (oz HB).size))
     clear HP HQ HU HB hbr c3 c0 z6
     obtain ⟨g,o,ea,hg,s0,s1,s2,s3⟩:=zcU (oz HP5) hx
     obtain ⟨rfl,rfl⟩:g=g'∧o=o':=by cases ea;exact ⟨rfl,rfl⟩
     clear ea
     obtain ⟨bb,hbb⟩:∃ bb,bb=zdm s x:=⟨_,rfl⟩
     rw [← hbb] at s3
     have HBBB:=kz hbb
     clear hbb
     have hln:=zdy w5 (.int .i32 (rn s x)) (.int .i64 x) (.int .i64 (wd s x)) (.bool bb) 56
     have HLN:=kz hln
     clear hln
     go_wp2_with (at_builtin;refine wpList_append_own _ rfl _ _ 35 rfl w1.heap.size 56 i0 (.agg #[.int .i32 0,.int .i64 0,.int .i64 0,.bool false]) 4 32 Tryz.underlying35 (oz HI) (oz HZ0) (oz HZ1) (oz HZ2) rfl (by decide) _ _ _ rfl ((oz HQ5).alloc _) ⟨w5.heap.size,0,none⟩ 1 1 [.int .i32 (rn s x),.int .i64 x,.int .i64 (wd s x),.bool bb] rfl rfl ?c1 ?c2 ?c3 ?c4 ?c5 ?_)
     case c1 =>have:=oz HLN;simpa using this
     case c2 =>intro u hu;simp at hu;rcases hu with rfl | rfl | rfl | rfl <;> rfl
     case c3 =>unfold maxLen;omega
     case c4 =>omega
     case c5 =>have:=(oz HB5).size;simp;omega
     intro v6 w6 hown6 hgrow6 _
     have ho:=zbF (oz HU5) (oz HQ5) (by decide)
     have HU6:=kz (((oz HU5).alloc (.cells #[.int .i32 (rn s x),.int .i64 x,.int .i64 (wd s x),.bool bb] 56)).kept hgrow6 ho)
     have HQ6:=kz hown6
     have hlt:=zez (oz HQ5)
     have HB6:=kz (((oz HB5).alloc (oz HB5).size (.cells #[.int .i32 (rn s x),.int .i64 x,.int .i64 (wd s x),.bool bb] 56)).grown hgrow6 (by have:=(oz HB5).size;simp;omega) (fun j ej =>(hlt j ej).1))
     clear hown6 hgrow6 ho HQ5 HU5 HB5 HLN hlt s0 s1 s2 s3
     go_wp2_with (at_builtin;refine wpList_append_own _ rfl _ _ 36 rfl w1.heap.size 3 j0 (.int .i64 0) 1 8 Tryz.underlying36 (oz HJ) (oz HY0) (oz HY1) (oz HY2) rfl (by decide) _ _ _ rfl ((oz HU6).alloc _) ⟨w6.heap.size,0,none⟩ 1 1 [.int .i64 k] rfl rfl ?d1 ?d2 ?d3 ?d4 ?d5 ?_)
     case d1 =>
      intro j u hj
      match j,hj with
      | 0,hj =>simp at hj;subst hj;simp [Addr.add]
     case d2 =>intro u hu;simp at hu;subst hu;rfl
     case d3 =>unfold maxLen;omega
     case d4 =>omega
     case d5 =>have:=(oz HB6).size;simp;omega
     intro u7 w7 hown7 hgrow7 _
     have ho:=zbF (oz HQ6) (oz HU6) (by decide)
     have HQ7:=kz (((oz HQ6).alloc (.cells #[.int .i64 k] 3)).kept hgrow7 ho)
     have HU7:=kz hown7
     have hlt:=zez (oz HU6)
     have HB7:=kz (((oz HB6).alloc (oz HB6).size (.cells #[.int .i64 k] 3)).grown hgrow7 (by have:=(oz HB6).size;simp;omega) (fun j ej =>(hlt j ej).1))
     clear hown7 hgrow7 ho HQ6 HU6 HB6 hlt
     go_wp2_with fail
     go_roundw
     case rel =>
      refine ⟨k+1,by go_num,by omega, ?_, ?_,HB7⟩
      ·have e3:za2 T s (k+1)=za2 T s k++[(x,k)]:=by rw [oz HS];rfl
       have e4:zc2 s (za2 T s k++[(x,k)])=zc2 s (za2 T s k)++[.int .i32 (rn s x),.int .i64 x,.int .i64 (wd s x),.bool (zdm s x)]:=by simp [zc2,zaz,zdm]
       have:=oz HQ7
       rw [oz HBBB, ← e4] at this
       rw [e3,List.length_append,List.length_singleton]
       exact kz this
      ·have e3:za2 T s (k+1)=za2 T s k++[(x,k)]:=by rw [oz HS];rfl
       have e4:zcC (za2 T s k++[(x,k)])=zcC (za2 T s k)++[.int .i64 k]:=by simp [zcC]
       have:=oz HU7
       rw [← e4] at this
       rw [e3,List.length_append,List.length_singleton]
       exact kz this
     case measure =>simp [intOf];omega
  ·have hk':¬ (k:Int) < ((zah s).length:Int):=by omega
   obtain rfl:k=(zah s).length:=by omega
   have hq:=oz HQ
   have hu:=oz HU
   rw [zgh] at hq hu
   have HQ2:=kz hq
   have HU2:=kz hu
   have HBW:=kz ((oz HX1).bl)
   have h1w:=(oz HX1).bl.size
   clear HQ HU hq hu
   go_wp2_with fail
   go_ret2
   have hsz:=(oz HBW).size
   exact ⟨_,_,rfl,za0 (oz HQ2) hsz,za0 (oz HU2) hsz,(oz HBW).trans ((oz HB).mono hsz)⟩
set_option maxRecDepth 100000
set_option maxHeartbeats 8000000
theorem zm0:(Tryz.prog.info? 5).map (fun i =>(i.zero,i.size,i.bytes))=some (some (.int .u8 0),1,1):=by kernel_rfl
theorem zmx {W:World} {base n:Nat} {v:Value} {b:ByteArray} (h:W.ownsRow base 5 1 v n (zbj b)) (hn:n=b.size):(convert 81 9 v).run Tryz.prog W=.ok (.string b) W:=by
 subst hn
 rcases h.2 with ⟨rfl,h0⟩ | ⟨g,cap,cur,rfl,_,hh,_,_,_,ht⟩
 ·rw [run_convert_bytes_nil W 81 5 Tryz.underlying81 Tryz.underlying5 0 0 9 Tryz.underlying9]
  have:b=ByteArray.empty:=by
   have h1:b.data.size=0:=h0
   simpa using h1
  rw [this]
 ·have e:b.size=b.data.toList.length:=by simp
  rw [e]
  exact run_convert_bytes_back W 81 9 5 ⟨g,0,none⟩ cap b.data.toList Tryz.underlying81 Tryz.underlying5 Tryz.underlying9 (fun j hj =>by
   refine h.cells (g:=g) rfl j _ ?_
   simp [zbj,List.getElem?_eq_getElem hj])
theorem zew (s:ByteArray) (l:List (Nat × Nat)):zc2 s l=(l.map Prod.fst).flatMap (zaz s):=by simp [zc2,List.flatMap_map]
theorem zmm {s:ByteArray} {l:List (Nat × Nat)} {k:Nat} {x:Nat × Nat} (h:l[k]?=some x):runesBytes (zhd s (l.take (k+1)))=runesBytes (zhd s (l.take k))++Utf8.encode (rn s x.1:Int):=by
 rw [List.take_add_one,h,Option.toList_some]
 unfold zhd
 rw [List.map_append,zd6,List.map_singleton,zgk,show runesBytes []=ByteArray.empty from rfl,ByteArray.append_empty]
theorem zfB (T:TV) (hT:TabB T) (h65:drB T 65533=false) (A:TbA) (s:ByteArray) (hs:s.size≤1000000) (W:World) (hA:zfM W T A) :
  Calls Tryz.prog 12 #[.agg #[.slice A.a0 T.sc.length A.c0,.slice A.a1 T.co.length A.c1,.slice A.a2 T.ma.length A.c2,.slice A.a3 T.pr.length A.c3,.slice A.a4 T.fo.length A.c4,.slice A.a5 T.lk.length A.c5,.slice A.a6 T.dr.length A.c6,.slice A.a7 T.al.length A.c7],.string s] W fun e w' =>e=.returned (.string (zbw T s))∧Below W.heap.size W w':=by
 have hmx:Tryz.prog.follows .mixedOrders=true:=by kernel_rfl
 obtain ⟨i0,hi,hz0,hz1,hz2⟩:=info_parts zm0
 have HI:=kz hi
 have HZ0:=kz hz0
 have HZ1:=kz hz1
 have HZ2:=kz hz2
 clear hi hz0 hz1 hz2
 have HX:=kz (TbX.start hA)
 have HC:=kz (zcV T hT h65 A s hs _ (TbX.start hA).ti)
 have hst:=zap s
 have hsl:=zb9 T s
 clear hA hT h65
 go_enter Tryz.func12,Tryz.ntmps12
 have z0:=(oz HX).z0
 have z1:=(oz HX).z1
 have z2:=(oz HX).z2
 have z3:=(oz HX).z3
 have z4:=(oz HX).z4
 have z5:=(oz HX).z5
 have z6:=(oz HX).z6
 have z7:=(oz HX).z7
 have HBW:=kz (oz HX).bl
 go_wp2_with fail
 generalize W.alloc (.cells #[.slice A.a0 T.sc.length A.c0,.slice A.a1 T.co.length A.c1,.slice A.a2 T.ma.length A.c2,.slice A.a3 T.pr.length A.c3,.slice A.a4 T.fo.length A.c4,.slice A.a5 T.lk.length A.c5,.slice A.a6 T.dr.length A.c6,.slice A.a7 T.al.length A.c7] 28)=w0 at *
 refine (oz HC).mono ?_
 rintro e w1 ⟨v,u,rfl,hown,hownu,hb⟩
 obtain ⟨a,c,rfl⟩:=zas hown
 obtain ⟨a',c',rfl⟩:=zas hownu
 have HP:=kz (show RowC w1 w1.heap.size a (((zal T s).map Prod.fst).flatMap (zaz s)) by rw [← zew];exact zbg hown)
 have HB1:=kz ((oz HBW).trans (hb.mono (oz HBW).size))
 clear hown hownu hb HC HX HBW z0 z1 z2 z3 z4 z5 z6 z7
 go_wp2_with fail
 go_loopw [5,8] (fun b i wr => ∃ k:Nat,i=.int .i64 k∧k≤(zal T s).length∧Hz (∃ n,n=(runesBytes (zhd s ((zal T s).take k))).size∧wr.ownsRow w1.heap.size 5 1 b n (zbj (runesBytes (zhd s ((zal T s).take k)))))∧Hz (Below w1.heap.size w1 wr))
  (fun _ i _ =>(zal T s).length - (intOf i).toNat)
 case atStart =>exact ⟨0,rfl,Nat.zero_le _,kz ⟨_,rfl,World.ownsRow_nil _ _ _ _⟩,kz (Below.refl _ _)⟩
 case round =>
  obtain ⟨k,rfl,hk,HQ,HB⟩:=hrel
  by_cases hkn:k < (zal T s).length
  ·have hk':(k:Int) < ((zal T s).length:Int):=by omega
   obtain ⟨x,hx⟩:∃ x,(zal T s)[k]?=some x:=⟨_,List.getElem?_eq_getElem hkn⟩
   have HS:=kz (zmm (s:=s) hx)
   have hx1:((zal T s).map Prod.fst)[k]?=some x.1:=by rw [List.getElem?_map,hx];rfl
   obtain ⟨g,o,ea,hg,s0,s1,s2,s3⟩:=zcU ((oz HP).below (oz HB) (Nat.le_refl _)) hx1
   subst ea
   have HRB:=kz (fun W =>ziJ (rn s x.1:Int) (zgn s x.1) W)
   have hsz:(Utf8.encode (rn s x.1:Int)).size≤4:=by
    have h2:=(zlj (zgn s x.1)).2
    have h3:zag (rn s x.1:Int)≤4:=by
     unfold zag
     repeat' split
     all_goals omega
    omega
   have htot:=runesBytes_size_le (zhd s ((zal T s).take k))
   rw [List.length_map,List.length_take] at htot
   obtain ⟨n,hn,hq⟩:=oz HQ
   have HQ1:=kz hq
   have hnl:n≤4000000:=by omega
   have HN:=kz hn
   clear s1 s2 s3 HQ hn hq hx hx1
   obtain ⟨bv,hbv⟩:∃ bv,bv=Utf8.encode (rn s x.1:Int):=⟨_,rfl⟩
   rw [← hbv] at HRB hsz HS
   clear hbv
   have hvl:=zgL bv
   go_wp2_with fail
   refine (oz HRB wr).mono ?_
   rintro e w5 ⟨rfl,rfl⟩
   have BX:=kz (Blk.new wr (zbj bv).toArray 5)
   clear HRB s0
   go_wp2_with (at_builtin;refine wpList_append_own _ rfl _ _ 81 rfl w1.heap.size 5 i0 (.int .u8 0) 1 1 Tryz.underlying81 (oz HI) (oz HZ0) (oz HZ1) (oz HZ2) rfl (by decide) _ _ _ rfl ((oz HQ1).alloc _) ⟨wr.heap.size,0,none⟩ bv.size bv.size (zbj bv) rfl (by rw [hvl,Nat.mul_one]) ?c1 ?c2 ?c3 ?c4 ?c5 ?_)
   case c1 =>
    intro j u hj
    rw [show ((⟨wr.heap.size,0,none⟩:Addr).add j)=⟨wr.heap.size,j,none⟩ by unfold Addr.add;split <;> simp_all,(oz BX).cell j,List.getElem?_toArray]
    exact hj
   case c2 =>
    intro u hu
    obtain ⟨z,_,rfl⟩:=List.mem_map.1 hu
    rfl
   case c3 =>unfold maxLen;omega
   case c4 =>omega
   case c5 =>have:=(oz HB).size;simp;omega
   intro v6 w6 hown6 hgrow6 _
   have hlt:=zez (oz HQ1)
   have HB6:=kz (((oz HB).alloc (oz HB).size (.cells (zbj bv).toArray 5)).grown hgrow6 (by have:=(oz HB).size;simp;omega) (fun j ej =>(hlt j ej).1))
   have HQ6:=kz hown6
   clear hown6 hgrow6 hlt HQ1 BX HB
   go_wp2_with fail
   go_roundw
   case rel =>
    refine ⟨k+1,by go_num,by omega,kz ⟨n+bv.size, ?_, ?_⟩,HB6⟩
    ·rw [oz HS,ByteArray.size_append,oz HN]
    ·rw [oz HS,zgM]
     have h:=oz HQ6
     rw [← List.map_take] at h
     exact h
   case measure =>simp [intOf];omega
  ·have hk':¬ (k:Int) < ((zal T s).length:Int):=by omega
   obtain rfl:k=(zal T s).length:=by omega
   obtain ⟨n,hn,hq⟩:=oz HQ
   rw [List.take_length] at hn hq
   have kc:=zmx hq hn
   rw [show runesBytes (zhd s (zal T s))=zbw T s from rfl] at kc
   clear HQ hn hq
   go_wp2
   go_ret
   exact ⟨rfl,(oz HB1).trans ((oz HB).mono (oz HB1).size)⟩
set_option maxRecDepth 100000
set_option maxHeartbeats 8000000
theorem ziI (T:TV) (hT:TabB T) (A:TbA) (s:ByteArray) (hs:s.size≤1000000) (W:World) (hA:zfM W T A) :
  Calls Tryz.prog 15 #[.agg #[.slice A.a0 T.sc.length A.c0,.slice A.a1 T.co.length A.c1,.slice A.a2 T.ma.length A.c2,.slice A.a3 T.pr.length A.c3,.slice A.a4 T.fo.length A.c4,.slice A.a5 T.lk.length A.c5,.slice A.a6 T.dr.length A.c6,.slice A.a7 T.al.length A.c7],.string s] W fun e w' =>e=.returned (zeh (zfG T s))∧Below W.heap.size W w':=by
 have hdr:T.dr.length≤1048576:=hT.n6
 have HX:=kz ((TbX.start hA).below ((Below.refl _ _).alloc (Nat.le_refl _) (.cells #[.int .i64 0,.int .i64 0] 40)))
 have HP:=kz (Blk.new (W.alloc (.cells #[.slice A.a0 T.sc.length A.c0,.slice A.a1 T.co.length A.c1,.slice A.a2 T.ma.length A.c2,.slice A.a3 T.pr.length A.c3,.slice A.a4 T.fo.length A.c4,.slice A.a5 T.lk.length A.c5,.slice A.a6 T.dr.length A.c6,.slice A.a7 T.al.length A.c7] 28)) #[.int .i64 0,.int .i64 0] 40)
 have hz:(W.alloc (.cells #[.slice A.a0 T.sc.length A.c0,.slice A.a1 T.co.length A.c1,.slice A.a2 T.ma.length A.c2,.slice A.a3 T.pr.length A.c3,.slice A.a4 T.fo.length A.c4,.slice A.a5 T.lk.length A.c5,.slice A.a6 T.dr.length A.c6,.slice A.a7 T.al.length A.c7] 28)).heap.size=W.heap.size+1:=by simp
 rw [hz] at HP
 have hst:=zap s
 clear hA hT hz
 go_enter Tryz.func15,Tryz.ntmps15
 go_wp2_with fail
 generalize (W.alloc (.cells #[.slice A.a0 T.sc.length A.c0,.slice A.a1 T.co.length A.c1,.slice A.a2 T.ma.length A.c2,.slice A.a3 T.pr.length A.c3,.slice A.a4 T.fo.length A.c4,.slice A.a5 T.lk.length A.c5,.slice A.a6 T.dr.length A.c6,.slice A.a7 T.al.length A.c7] 28)).alloc (.cells #[.int .i64 0,.int .i64 0] 40)=w0 at *
 refine (zcr s (by omega) w0).mono ?_
 rintro e w1 ⟨v0,rfl,hown,hb⟩
 obtain ⟨a0,c0,rfl⟩:=zas hown
 have HX1:=kz ((oz HX).below hb)
 have HP1:=kz (zbg hown)
 have HP0:=kz ((oz HP).below hb (oz HP).lt)
 have HW1:=kz ((oz HX).below hb).bl
 clear HX hb hown HP
 go_wp2_with fail
 go_loopw [7] (fun i wr => ∃ k:Nat,i=.int .i64 k∧k≤(zah s).length∧Hz (∀ i ∈ (zah s).take k,zgY T s i=false)∧Hz (Below w1.heap.size w1 wr))
  (fun i _ =>(zah s).length - (intOf i).toNat)
 case atStart =>exact ⟨0,rfl,Nat.zero_le _,kz (fun i hi =>by simp at hi),kz (Below.refl _ _)⟩
 case round =>
  obtain ⟨k,rfl,hk,HNO,HB⟩:=hrel
  by_cases hkn:k < (zah s).length
  ·have hk':(k:Int) < ((zah s).length:Int):=by omega
   obtain ⟨x,hx⟩:∃ x,(zah s)[k]?=some x:=⟨_,List.getElem?_eq_getElem hkn⟩
   have HX2:=kz ((oz HX1).below (oz HB))
   obtain ⟨g,o,ea,hg,s0,s1,s2,s3⟩:=zcU ((oz HP1).below (oz HB) (Nat.le_refl _)) hx
   have c0:=cell_regrown s0
   have c3:=cell_regrown s3
   have z6:=cell_regrown (oz HX2).z6
   have hst2:zah s=(zah s).take k++[x]++(zah s).drop (k+1):=by
    have h:=List.take_append_drop (k+1) (zah s)
    rw [List.take_add_one,hx,Option.toList_some] at h
    exact h.symm
   have HST2:=kz hst2
   clear hst2
   have hpk:((zah s).take k).length=k:=by rw [List.length_take];omega
   have hno:=oz HNO
   clear s0 s2 s3
   subst ea
   cases hb:zdm s x with
   | true =>
    rw [hb] at c3
    have hhit:zgY T s x=true:=by unfold zgY;rw [hb];rfl
    clear hb
    go_wp2_with fail
    refine wp_region_quiet_below (by kernel_rfl) (by kernel_rfl) ?_
    repeat (go_big_quiet_step (exact Calls.regrown_of ((zbk T.dr hdr A.a6 A.c6 (rn s x) _ ((oz HX2).ti.r6.below (below_regrown wr _ _) (below_regrown wr _ _).size)).mono (fun e w2 h =>⟨h.1,h.2 ▸ Below.refl _ _⟩))))
    first | refine wpQuiet_nil ?_ | skip
    rintro w' ⟨dq,rfl⟩
    have hbr:=below_regrown wr dq.d dq.os
    generalize Go.Sort.grow (redrawn wr dq.d) dq.os=w5 at *
    have HB5:=kz ((oz HB).trans (hbr.mono (oz HB).size))
    have s1:=(hbr.cell (p:=⟨g,o+k*4+1,none⟩) (by show g < _;have:=(oz HB).size;omega)).trans s1
    clear HB hbr c3 c0 z6
    have HBP:=kz ((oz HP0).below (oz HB5) (oz HP0).lt)
    have p0:=(oz HBP).cell 0
    have p1:=(oz HBP).cell 1
    have pf:=(oz HBP).frozen
    have HF:=kz (zeG (T:=T) (oz HST2) hno hhit)
    clear hno hhit
    go_wp2_with fail
    have q:=((oz HBP).set 0 (.int .i64 x)).set 1 (.int .i64 k)
    have c0:=q.cell 0
    have c1:=q.cell 1
    have hb:=(oz HW1).trans (((oz HB5).mono (oz HW1).size))
    refine bodyPost_ret (v := .tuple #[.agg #[.int .i64 x,.int .i64 k],.bool true]) (by simp [results,Tryz.f15,go_sem,c0,c1]) rfl ⟨by rw [oz HF,hpk];rfl, ?_⟩
    exact (hb.setCell (p:=⟨W.heap.size+1,0,none⟩) (by simp) _).setCell (p:=⟨W.heap.size+1,1,none⟩) (by simp) _
   | false =>
    rw [hb] at c3
    cases hd:zam T.dr (rn s x) with
    | true =>
     have hhit:zgY T s x=true:=by unfold zgY;rw [show drB T (rn s x)=true from hd,Bool.or_true]
     clear hb
     go_wp2_with fail
     refine wp_region_quiet_below (by kernel_rfl) (by kernel_rfl) ?_
     repeat (go_big_quiet_step (exact Calls.regrown_of ((zbk T.dr hdr A.a6 A.c6 (rn s x) _ ((oz HX2).ti.r6.below (below_regrown wr _ _) (below_regrown wr _ _).size)).mono (fun e w2 h =>⟨h.1,h.2 ▸ Below.refl _ _⟩))))
     first | refine wpQuiet_nil ?_ | skip
     rintro w' ⟨dq,rfl⟩
     have hbr:=below_regrown wr dq.d dq.os
     generalize Go.Sort.grow (redrawn wr dq.d) dq.os=w5 at *
     have HB5:=kz ((oz HB).trans (hbr.mono (oz HB).size))
     have s1:=(hbr.cell (p:=⟨g,o+k*4+1,none⟩) (by show g < _;have:=(oz HB).size;omega)).trans s1
     clear HB hbr c3 c0 z6
     have HBP:=kz ((oz HP0).below (oz HB5) (oz HP0).lt)
     have p0:=(oz HBP).cell 0
     have p1:=(oz HBP).cell 1
     have pf:=(oz HBP).frozen
     have HF:=kz (zeG (T:=T) (oz HST2) hno hhit)
     clear hno hhit
     go_wp2_with fail
     have q:=((oz HBP).set 0 (.int .i64 x)).set 1 (.int .i64 k)
     have c0:=q.cell 0
     have c1:=q.cell 1
     have hb:=(oz HW1).trans (((oz HB5).mono (oz HW1).size))
     refine bodyPost_ret (v := .tuple #[.agg #[.int .i64 x,.int .i64 k],.bool true]) (by simp [results,Tryz.f15,go_sem,c0,c1]) rfl ⟨by rw [oz HF,hpk];rfl, ?_⟩
     exact (hb.setCell (p:=⟨W.heap.size+1,0,none⟩) (by simp) _).setCell (p:=⟨W.heap.size+1,1,none⟩) (by simp) _
    | false =>
     have hhit:zgY T s x=false:=by unfold zgY;rw [show drB T (rn s x)=false from hd,hb];rfl
     clear hb
     go_wp2_with fail
     refine wp_region_quiet_below (by kernel_rfl) (by kernel_rfl) ?_
     repeat (go_big_quiet_step (exact Calls.regrown_of ((zbk T.dr hdr A.a6 A.c6 (rn s x) _ ((oz HX2).ti.r6.below (below_regrown wr _ _) (below_regrown wr _ _).size)).mono (fun e w2 h =>⟨h.1,h.2 ▸ Below.refl _ _⟩))))
     first | refine wpQuiet_nil ?_ | skip
     rintro w' ⟨dq,rfl⟩
     have hbr:=below_regrown wr dq.d dq.os
     generalize Go.Sort.grow (redrawn wr dq.d) dq.os=w5 at *
     have HB5:=kz ((oz HB).trans (hbr.mono (oz HB).size))
     have s1:=(hbr.cell (p:=⟨g,o+k*4+1,none⟩) (by show g < _;have:=(oz HB).size;omega)).trans s1
     clear HB hbr c3 c0 z6
     go_wp2_with fail
     go_roundw
     case rel =>
      refine ⟨k+1,by go_num,by omega,kz (fun i hi =>?_),HB5⟩
      rw [List.take_add_one,hx,Option.toList_some] at hi
      rcases List.mem_append.1 hi with h | h
      ·exact hno i h
      ·rw [List.mem_singleton.1 h];exact hhit
     case measure =>simp [intOf];omega
  ·have hk':¬ (k:Int) < ((zah s).length:Int):=by omega
   obtain rfl:k=(zah s).length:=by omega
   have hno:=oz HNO
   rw [List.take_length] at hno
   have HF:=kz (zgD hno)
   have HBP:=kz ((oz HP0).below (oz HB) (oz HP0).lt)
   have p0:=(oz HBP).cell 0
   have p1:=(oz HBP).cell 1
   have pf:=(oz HBP).frozen
   clear hno HNO
   go_wp2_with fail
   have q:=((oz HBP).set 0 (.int .i64 0)).set 1 (.int .i64 0)
   have c0:=q.cell 0
   have c1:=q.cell 1
   have hb:=(oz HW1).trans (((oz HB).mono (oz HW1).size))
   refine bodyPost_ret (v := .tuple #[.agg #[.int .i64 0,.int .i64 0],.bool false]) (by simp [results,Tryz.f15,go_sem,c0,c1]) rfl ⟨by rw [oz HF];rfl, ?_⟩
   exact (hb.setCell (p:=⟨W.heap.size+1,0,none⟩) (by simp) _).setCell (p:=⟨W.heap.size+1,1,none⟩) (by simp) _
def zkv (s:ByteArray) (n:Nat):ByteArray:=if n < s.size then s.extract 0 n else s
theorem ze2 (s:ByteArray) (n:Nat):(zkv s n).size≤n:=by
 unfold zkv
 split
 ·rw [ByteArray.size_extract];omega
 ·omega
theorem zo2 (s:ByteArray) (hs:s.size≤1000000000) (n:Nat) (hn:n≤1000000) (w:World):Calls Tryz.prog 11 #[.string s,.int .i64 n] w fun e w' =>e=.returned (.string (zkv s n))∧w'=w:=by
 by_cases h:n < s.size
 ·have hv:=kz (show zkv s n=s.extract 0 n from if_pos h)
  have h1:(s.size:Int) > (n:Int):=by omega
  have h2:(n:Int)≤(s.size:Int):=by omega
  have h3:((n:Nat):Int).toNat=n:=by omega
  go_enter Tryz.func11,Tryz.ntmps11
  go_wp2
  go_ret
  exact ⟨by rw [oz hv];rfl,rfl⟩
 ·have hv:=kz (show zkv s n=s from if_neg h)
  have h1:¬ (s.size:Int) > (n:Int):=by omega
  go_enter Tryz.func11,Tryz.ntmps11
  go_wp2
  go_ret
  exact ⟨by rw [oz hv];rfl,rfl⟩
set_option maxRecDepth 100000
set_option maxHeartbeats 8000000
theorem zpI {W:World} {hi:Nat} {a:Option Addr} {l:List (Nat × Nat)} {k:Nat} {x:Nat × Nat} (h:RowC W hi a (zcC l)) (hx:l[k]?=some x):∃ g o,a=some ⟨g,o,none⟩∧g < hi∧W.cell? ⟨g,o+k,none⟩=some (.int .i64 x.2):=by
 have hk:=(List.getElem?_eq_some_iff.1 hx).1
 obtain ⟨g,o,e,hg,hc⟩:=h (by unfold zcC;rw [List.length_map];omega)
 exact ⟨g,o,e,hg,hc k _ (by unfold zcC;rw [List.getElem?_map,hx];rfl)⟩
theorem ziH (T:TV) (hT:TabB T) (h65:drB T 65533=false) (A:TbA) (s:ByteArray) (hs:s.size≤1000000) (n:Int) (W:World) (hA:zfM W T A) :
  Calls Tryz.prog 17 #[.agg #[.slice A.a0 T.sc.length A.c0,.slice A.a1 T.co.length A.c1,.slice A.a2 T.ma.length A.c2,.slice A.a3 T.pr.length A.c3,.slice A.a4 T.fo.length A.c4,.slice A.a5 T.lk.length A.c5,.slice A.a6 T.dr.length A.c6,.slice A.a7 T.al.length A.c7],.string s,.int .i64 n] W fun e w' =>e=.returned (zeh (zdv T s n))∧Below W.heap.size W w':=by
 have hmx:Tryz.prog.follows .mixedOrders=true:=by kernel_rfl
 have HX:=kz ((TbX.start hA).below ((Below.refl _ _).alloc (Nat.le_refl _) (.cells #[.int .i64 0,.int .i64 0] 40)))
 have HP:=kz (Blk.new (W.alloc (.cells #[.slice A.a0 T.sc.length A.c0,.slice A.a1 T.co.length A.c1,.slice A.a2 T.ma.length A.c2,.slice A.a3 T.pr.length A.c3,.slice A.a4 T.fo.length A.c4,.slice A.a5 T.lk.length A.c5,.slice A.a6 T.dr.length A.c6,.slice A.a7 T.al.length A.c7] 28)) #[.int .i64 0,.int .i64 0] 40)
 have hz:(W.alloc (.cells #[.slice A.a0 T.sc.length A.c0,.slice A.a1 T.co.length A.c1,.slice A.a2 T.ma.length A.c2,.slice A.a3 T.pr.length A.c3,.slice A.a4 T.fo.length A.c4,.slice A.a5 T.lk.length A.c5,.slice A.a6 T.dr.length A.c6,.slice A.a7 T.al.length A.c7] 28)).heap.size=W.heap.size+1:=by simp
 rw [hz] at HP
 have HC:=kz (zcV T hT h65 A s hs ((W.alloc (.cells #[.slice A.a0 T.sc.length A.c0,.slice A.a1 T.co.length A.c1,.slice A.a2 T.ma.length A.c2,.slice A.a3 T.pr.length A.c3,.slice A.a4 T.fo.length A.c4,.slice A.a5 T.lk.length A.c5,.slice A.a6 T.dr.length A.c6,.slice A.a7 T.al.length A.c7] 28)).alloc (.cells #[.int .i64 0,.int .i64 0] 40)) (oz HX).ti)
 have hst:=zap s
 have hsl:=zb9 T s
 clear hA hT hz h65
 go_enter Tryz.func17,Tryz.ntmps17
 have z0:=(oz HX).z0
 have z1:=(oz HX).z1
 have z2:=(oz HX).z2
 have z3:=(oz HX).z3
 have z4:=(oz HX).z4
 have z5:=(oz HX).z5
 have z6:=(oz HX).z6
 have z7:=(oz HX).z7
 have HBW:=kz (oz HX).bl
 go_wp2_with fail
 generalize ((W.alloc (.cells #[.slice A.a0 T.sc.length A.c0,.slice A.a1 T.co.length A.c1,.slice A.a2 T.ma.length A.c2,.slice A.a3 T.pr.length A.c3,.slice A.a4 T.fo.length A.c4,.slice A.a5 T.lk.length A.c5,.slice A.a6 T.dr.length A.c6,.slice A.a7 T.al.length A.c7] 28)).alloc (.cells #[.int .i64 0,.int .i64 0] 40))=w0 at *
 refine (oz HC).mono ?_
 rintro e w1 ⟨v,u,rfl,hown,hownu,hb⟩
 obtain ⟨a,c,rfl⟩:=zas hown
 obtain ⟨a',c',rfl⟩:=zas hownu
 have HS:=kz (show RowC w1 w1.heap.size a (((zal T s).map Prod.fst).flatMap (zaz s)) by rw [← zew];exact zbg hown)
 have HN:=kz (zbg hownu)
 have HB1:=kz ((oz HBW).trans (hb.mono (oz HBW).size))
 have HP1:=kz ((oz HP).below hb (oz HP).lt)
 clear hown hownu hb HC HX HBW HP z0 z1 z2 z3 z4 z5 z6 z7
 have p0:=(oz HP1).cell 0
 have p1:=(oz HP1).cell 1
 have pf:=(oz HP1).frozen
 obtain ⟨ln,hln⟩:∃ ln,ln=(zal T s).length:=⟨_,rfl⟩
 have HLN:=kz hln
 rw [← hln] at hsl
 rw [← hln]
 clear hln
 have fin0:∀ w2:World,Below W.heap.size W w2→Below W.heap.size W ((w2.setCell ⟨W.heap.size+1,0,none⟩ (.int .i64 0)).setCell ⟨W.heap.size+1,1,none⟩ (.int .i64 0)):=fun w2 h =>(h.setCell (p:=⟨W.heap.size+1,0,none⟩) (by simp) _).setCell (p:=⟨W.heap.size+1,1,none⟩) (by simp) _
 have HFN:=kz fin0
 clear fin0
 by_cases h1:n < 0
 ·have HV:=kz (zhg (T:=T) (s:=s) h1)
  go_wp2_with fail
  have q:=((oz HP1).set 0 (.int .i64 0)).set 1 (.int .i64 0)
  have c0:=q.cell 0
  have c1:=q.cell 1
  exact bodyPost_ret (v := .tuple #[.agg #[.int .i64 0,.int .i64 0],.bool false]) (by simp [results,Tryz.f17,go_sem,c0,c1]) rfl ⟨by rw [oz HV];rfl,oz HFN _ (oz HB1)⟩
 ·obtain ⟨k,rfl⟩:∃ k:Nat,n=(k:Int):=⟨n.toNat,by omega⟩
  by_cases h2:(k:Int) > (ln:Int)
  ·have HV:=kz (zhh (T:=T) (s:=s) (n:=k) (by have:=oz HLN;omega))
   go_wp2_with fail
   have q:=((oz HP1).set 0 (.int .i64 0)).set 1 (.int .i64 0)
   have c0:=q.cell 0
   have c1:=q.cell 1
   exact bodyPost_ret (v := .tuple #[.agg #[.int .i64 0,.int .i64 0],.bool false]) (by simp [results,Tryz.f17,go_sem,c0,c1]) rfl ⟨by rw [oz HV];rfl,oz HFN _ (oz HB1)⟩
  ·by_cases h3:k=ln
   ·have h4:((k:Int) == (ln:Int))=true:=by simp [h3]
    have HV:=kz (zhi (T:=T) (s:=s) (n:=k) (by have:=oz HLN;omega))
    clear h3
    go_wp2_with fail
    refine (zcr s (by omega) w1).mono ?_
    rintro e w2 ⟨v2,rfl,hown2,hb2⟩
    obtain ⟨a2,c2,rfl⟩:=zas hown2
    have HP2:=kz ((oz HP1).below hb2 (oz HP1).lt)
    have HB2:=kz ((oz HB1).trans (hb2.mono (oz HB1).size))
    clear hown2 hb2 HP1 p0 p1 pf HB1
    have p0:=(oz HP2).cell 0
    have p1:=(oz HP2).cell 1
    have pf:=(oz HP2).frozen
    go_wp2_with fail
    have q:=((oz HP2).set 0 (.int .i64 s.size)).set 1 (.int .i64 (zah s).length)
    have c0:=q.cell 0
    have c1:=q.cell 1
    exact bodyPost_ret (v := .tuple #[.agg #[.int .i64 s.size,.int .i64 (zah s).length],.bool true]) (by simp [results,Tryz.f17,go_sem,c0,c1]) rfl ⟨by rw [oz HV];rfl,((oz HB2).setCell (p:=⟨W.heap.size+1,0,none⟩) (by simp) _).setCell (p:=⟨W.heap.size+1,1,none⟩) (by simp) _⟩
   ·have h4:((k:Int) == (ln:Int))=false:=by simp;omega
    have hkl:k < ln:=by omega
    have hk5:(k:Int) < (ln:Int):=by omega
    have hk6:((k:Nat):Int).toNat=k:=by omega
    obtain ⟨x,hx⟩:∃ x,(zal T s)[k]?=some x:=⟨_,List.getElem?_eq_getElem (by have:=oz HLN;omega)⟩
    have HV:=kz (show zdv T s (k:Int)=some x by
     unfold zdv
     rw [if_neg (by omega),if_neg (by have:=oz HLN;omega),Int.toNat_natCast]
     exact hx)
    obtain ⟨g,o,rfl,hg,s0,s1,s2,s3⟩:=zcU (oz HS) (k:=k) (x:=x.1) (by rw [List.getElem?_map,hx];rfl)
    obtain ⟨g',o',rfl,hg',n0⟩:=zpI (oz HN) hx
    clear h3 hx s0 s2 s3 hkl
    go_wp2_with fail
    have d1:w1.drew.cell? ⟨g,o+k*4+1,none⟩=some (.int .i64 x.1):=s1
    have d2:w1.drew.cell? ⟨g',o' + k,none⟩=some (.int .i64 x.2):=n0
    have d3:w1.drew.cell? ⟨W.heap.size+1,0,none⟩=some (.int .i64 0):=p0
    have d4:w1.drew.cell? ⟨W.heap.size+1,1,none⟩=some (.int .i64 0):=p1
    have df:∀ i,w1.drew.frozen? ⟨W.heap.size+1,i,none⟩=false:=pf
    skip
    go_region
    have q:=((oz HP1).set 0 (.int .i64 x.1)).set 1 (.int .i64 x.2)
    have c0:=q.cell 0
    have c1:=q.cell 1
    have hbf:=((oz HB1).setCell (p:=⟨W.heap.size+1,0,none⟩) (by simp) (.int .i64 x.1)).setCell (p:=⟨W.heap.size+1,1,none⟩) (by simp) (.int .i64 x.2)
    have HBF:=kz hbf
    clear hbf q
    go_wp2_with fail
    refine bodyPost_ret (v := .tuple #[.agg #[.int .i64 x.1,.int .i64 x.2],.bool true]) (by simp [results,Tryz.f17,go_sem,c0,c1]) rfl ⟨by rw [oz HV];rfl, ?_⟩
    exact (oz HBF).trans ⟨rfl,rfl,rfl,Nat.le_refl _,fun _ _ =>rfl⟩
end
end Go.Proofs.YtmemedpoaocdkaaGreat
