/- Texts of this claim, one behind the other. -/
import Derived.Test.YtoaiicbicdhkkaaGreatM31
/- strip.First, zgf for every Book and every text that is not too great. -/
namespace Go.Proofs.YtoaiicbicdhkkaaGreat
open Go.RowKit Go.Shelf Go.Maps
attribute [local go_sem] Oper.semAt_some
set_option linter.unusedVariables false
def zdp (o:Option (Nat × Nat)):Value:=match o with
 | some x =>.tuple #[.agg #[.int .i64 x.1,.int .i64 x.2],.bool true]
 | none =>.tuple #[.agg #[.int .i64 0,.int .i64 0],.bool false]
theorem zf1 {A b:Nat} {X Y:World} (h:Above A X Y) (h1:b+1 < A) (u1 u2 u3:Value):Above A X (((Y.setCell ⟨b,0,none⟩ u1).setCell ⟨b,1,none⟩ u2).setCell ⟨b+1,0,none⟩ u3):=((h.set (by omega) _).set (by omega) _).set h1 _
attribute [local go_sem] Oper.semAt_some
set_option linter.unusedVariables false
def zdw (T:TV) (s:ByteArray) (n:Int):Option (Nat × Nat):=if n < 0 then none else if n=((zbi T s).length:Int) then some (s.size,(zav s).length) else (zbi T s)[n.toNat]?
structure PlI (w:World) (n m:Nat) (pre:List (Nat × Nat)) (W:World):Prop where
 le:pre.length≤n
 b:Blk W w.heap.size #[.int .i64 n] 3
 p:Blk W (w.heap.size+1) #[.int .i64 0,.int .i64 0] 35
 o:Blk W (w.heap.size+1+1) #[.bool false] 4
 n:Blk W (w.heap.size+1+1+1) #[.int .i64 pre.length] 3
 t:Below w.heap.size w W
theorem PlI.below {w:World} {n m A:Nat} {pre:List (Nat × Nat)} {X Y:World} (h:PlI w n m pre X) (hb:Below A X Y) (hA:w.heap.size+4≤A):PlI w n m pre Y :=
 ⟨h.le,h.b.below hb (by omega),h.p.below hb (by omega),h.o.below hb (by omega),h.n.below hb (by omega),h.t.trans (hb.mono (by omega))⟩
structure PlX (w:World) (n:Nat) (c:Code) (pre:List (Nat × Nat)) (W:World):Prop where
 c:c=.ret
 f:∃ q x,pre=q++[x]∧q.length=n∧Blk W (w.heap.size+1) #[.int .i64 x.1,.int .i64 x.2] 35
 o:Blk W (w.heap.size+1+1) #[.bool true] 4
 t:Below w.heap.size w W
theorem PlX.below {w:World} {n A:Nat} {c:Code} {pre:List (Nat × Nat)} {X Y:World} (h:PlX w n c pre X) (hb:Below A X Y) (hA:w.heap.size+4≤A):PlX w n c pre Y:=by
 obtain ⟨q,x,h1,h2,h4⟩:=h.f
 exact ⟨h.c,⟨q,x,h1,h2,h4.below hb (by omega)⟩,h.o.below hb (by omega),h.t.trans (hb.mono (by omega))⟩
theorem PlI.hit {w:World} {n m:Nat} {pre:List (Nat × Nat)} {X:World} {x:Nat × Nat} (h:PlI w n m pre X) (hx:pre.length=n):PlX w n .ret (pre++[x]) (((X.setCell ⟨w.heap.size+1,0,none⟩ (.int .i64 x.1)).setCell ⟨w.heap.size+1,1,none⟩ (.int .i64 x.2)).setCell ⟨w.heap.size+1+1,0,none⟩ (.bool true)) :=
 ⟨rfl,⟨pre,x,rfl,hx,((h.p.set 0 _).set 1 _).other (by omega) _⟩,((h.o.other (by omega) _).other (by omega) _).set 0 _,
  ((h.t.setCell (p:=⟨w.heap.size+1,0,none⟩) (by simp) _).setCell (p:=⟨w.heap.size+1,1,none⟩) (by simp) _).setCell (p:=⟨w.heap.size+1+1,0,none⟩) (by simp;omega) _⟩
theorem PlI.step {w:World} {n m:Nat} {pre:List (Nat × Nat)} {X:World} {x:Nat × Nat} (h:PlI w n m pre X) (hx:pre.length≠n):PlI w n m (pre++[x]) (X.setCell ⟨w.heap.size+1+1+1,0,none⟩ (.int .i64 ((pre.length:Int)+1))):=by
 refine ⟨?_,h.b.other (by omega) _,h.p.other (by omega) _,h.o.other (by omega) _, ?_,h.t.setCell (p:=⟨w.heap.size+1+1+1,0,none⟩) (by simp;omega) _⟩
 ·have:=h.le
  rw [List.length_append,List.length_singleton]
  omega
 ·rw [show (((pre++[x]).length:Nat):Int)=(pre.length:Int)+1 by simp]
  exact h.n.set 0 _
theorem zjD {T:TV} {s:ByteArray} {n:Int} (h:n < 0):zdw T s n=none:=if_pos h
theorem zjF {T:TV} {s:ByteArray} {n:Nat} (h:(zbi T s).length=n):zdw T s (n:Int)=some (s.size,(zav s).length):=by
 unfold zdw
 rw [if_neg (by omega),if_pos (by omega)]
theorem zjE {T:TV} {s:ByteArray} {n:Nat} (h:(zbi T s).length < n):zdw T s (n:Int)=none:=by
 unfold zdw
 rw [if_neg (by omega),if_neg (by omega),Int.toNat_natCast]
 exact List.getElem?_eq_none (by omega)
theorem zif {T:TV} {s:ByteArray} {n:Nat} {q r:List (Nat × Nat)} {x:Nat × Nat} (h:q++[x]++r=zbi T s) (hq:q.length=n):zdw T s (n:Int)=some x:=by
 have hl:n < (zbi T s).length:=by rw [← h];simp;omega
 unfold zdw
 rw [if_neg (by omega),if_neg (by omega),Int.toNat_natCast, ← h,List.append_assoc,List.getElem?_append_right (by omega)]
 simp [hq]
set_option maxRecDepth 100000 in
set_option maxHeartbeats 4000000 in
theorem zjH (n:Nat) (hn:4≤n) (s:ByteArray) (B:Nat) (k:Int) (hk:k < 0) (w:World):CallsIn Fence.wide n Tryz.prog 13 #[.pointer (some ⟨B,0,none⟩),.string s,.int .i64 k] w fun e w' =>e=.returned (zdp none)∧Below w.heap.size w w':=by
 refine callsIn_of_wp_marks Tryz.func13 rfl trivial ?_ rfl
 simp only [Tryz.ntmps13,List.size_toArray,List.length_cons,List.length_nil,Nat.reduceAdd,Nat.reduceSub,Array.replicate_succ,Array.replicate_zero,List.push_toArray,List.append_toArray,List.nil_append,List.cons_append]
 gi_wp2
 have hb:=((((Below.refl w.heap.size w).alloc (Nat.le_refl _) (.cells #[.int .i64 k] 3)).alloc (by simp) (.cells #[.int .i64 0,.int .i64 0] 35)).alloc (by simp;omega) (.cells #[.bool false] 4))
 have b1:=(Blk.new (w.alloc (.cells #[.int .i64 k] 3)) #[.int .i64 0,.int .i64 0] 35).alloc (.cells #[.bool false] 4)
 have b2:=Blk.new ((w.alloc (.cells #[.int .i64 k] 3)).alloc (.cells #[.int .i64 0,.int .i64 0] 35)) #[.bool false] 4
 simp only [World.size_alloc] at b1 b2
 have c0:=b1.cell 0
 have c1:=b1.cell 1
 have c3:=b2.cell 0
 refine ⟨.tuple #[.agg #[.int .i64 0,.int .i64 0],.bool false], ?_,rfl,hb⟩
 simp [results,Tryz.f13,go_sem]
set_option maxRecDepth 100000 in
set_option maxHeartbeats 4000000 in
theorem place_in (n:Nat) (hn:4≤n) (T:TV) (hO:zar T) (s:ByteArray) (hs:s.size≤1000000000000) (k:Nat) (hk:k≤9223372036854775807) (B:Nat) (w:World) (hbk:BookAt w B T) :
  CallsIn Fence.wide n Tryz.prog 13 #[.pointer (some ⟨B,0,none⟩),.string s,.int .i64 k] w fun e w' =>e=.returned (zdp (zdw T s k))∧Below w.heap.size w w':=by
 have h1:1≤n:=by omega
 have hsm:s.size≤maxLen:=by unfold maxLen;omega
 have hsl:(zav s).length≤s.size:=zaL s
 have hsn:=zfx T s
 have hk0:¬ ((k:Int) < 0):=by omega
 refine callsIn_of_wp_marks Tryz.func13 rfl trivial ?_ rfl
 simp only [Tryz.ntmps13,List.size_toArray,List.length_cons,List.length_nil,Nat.reduceAdd,Nat.reduceSub,Array.replicate_succ,Array.replicate_zero,List.push_toArray,List.append_toArray,List.nil_append,List.cons_append]
 gi_wp2_with (refine ⟨trivial, ?_⟩;gi_at_call 24;refine (callsIn_wide.2 (zfy B s _)).mono ?_;rintro e w' ⟨rfl,rfl⟩)
 rename_i K1 hK1
 have hK1':=kz hK1
 clear hK1
 obtain ⟨Wa,hWa⟩:∃ Wa,Wa=(((w.alloc (.cells #[.int .i64 k] 3)).alloc (.cells #[.int .i64 0,.int .i64 0] 35)).alloc (.cells #[.bool false] 4)).alloc (.cells #[.int .i64 0] 3):=⟨_,rfl⟩
 have hIa:PlI w k 0 [] Wa:=by
  rw [hWa]
  have b0:=(((Blk.new w #[.int .i64 k] 3).alloc (.cells #[.int .i64 0,.int .i64 0] 35)).alloc (.cells #[.bool false] 4)).alloc (.cells #[.int .i64 0] 3)
  have b1:=((Blk.new (w.alloc (.cells #[.int .i64 k] 3)) #[.int .i64 0,.int .i64 0] 35).alloc (.cells #[.bool false] 4)).alloc (.cells #[.int .i64 0] 3)
  have b2:=(Blk.new ((w.alloc (.cells #[.int .i64 k] 3)).alloc (.cells #[.int .i64 0,.int .i64 0] 35)) #[.bool false] 4).alloc (.cells #[.int .i64 0] 3)
  have b3:=Blk.new (((w.alloc (.cells #[.int .i64 k] 3)).alloc (.cells #[.int .i64 0,.int .i64 0] 35)).alloc (.cells #[.bool false] 4)) #[.int .i64 0] 3
  simp only [World.size_alloc] at b1 b2 b3
  exact ⟨Nat.zero_le _,b0,b1,b2,b3,(((((Below.refl w.heap.size w).alloc (Nat.le_refl _) _).alloc (by simp) _).alloc (by simp;omega) _).alloc (by simp;omega) _)⟩
 have hza:Wa.heap.size=w.heap.size+1+1+1+1:=by rw [hWa];simp
 rw [← hWa]
 clear hWa
 have hsq:SeQ w B Wa.heap.size (Wa.heap.size+1) T s _:=SeQ.new hIa.t 22 9
 have hI:PlI w k 0 [] ((Wa.alloc (.cells #[.pointer (some ⟨B,0,none⟩)] 22)).alloc (.cells #[.string s] 9)):=hIa.below (((Below.refl Wa.heap.size Wa).alloc (Nat.le_refl _) _).alloc (by simp) _) (by omega)
 have hz0:w.heap.size+6≤((Wa.alloc (.cells #[.pointer (some ⟨B,0,none⟩)] 22)).alloc (.cells #[.string s] 9)).heap.size:=by simp;omega
 rw [hza] at hsq
 generalize (Wa.alloc (.cells #[.pointer (some ⟨B,0,none⟩)] 22)).alloc (.cells #[.string s] 9)=W0 at *
 clear hza hIa
 refine zc3 rfl h1 (gf:=39) (lb:=#[.pointer (some ⟨w.heap.size+1+1+1+1,0,none⟩),.pointer (some ⟨w.heap.size+1+1+1+1+1,0,none⟩)]) rfl trivial (enters_of Tryz.func39 (by kernel_rfl) rfl)
  (zhm (n - 1) (w.heap.size+1+1+1+1) (w.heap.size+1+1+1+1+1) B (by omega) T hO s hsm w W0 hbk hsq (by omega)) KpQ.trans (fun W l o hl =>KpQ.put W l o (by omega) (by omega) (by omega)) (Below.refl _ _) (fun _ =>rfl)
  (PlI w k 0) (PlX w k) (fun p X Y h hb =>h.below hb (by omega)) (fun c p X Y h hb =>h.below hb (by omega)) hI ?round ?done ?stop
 case round =>
  rintro pre x W hIW hpx hge
  have hal:=(Below.refl W.heap.size W).alloc (Nat.le_refl _) (.cells #[.int .i64 x.1,.int .i64 x.2] 35)
  have hX:=Blk.new W #[.int .i64 x.1,.int .i64 x.2] 35
  have hpl:pre.length < s.size:=by
   have h2:=ziY hpx
   rw [List.length_append,List.length_singleton] at h2
   omega
  dsimp only [zg7]
  gi_wp2
  refine ⟨Above.below hal,KpQ.below hal (by omega) (by omega) (by omega),hIW.below hal (by omega), ?_⟩
  intro Wr hgr hsr hIr
  have hXr:=hX.kept hgr (by simp;omega)
  obtain ⟨PX,hPX⟩:∃ PX,PX=W.heap.size:=⟨_,rfl⟩
  rw [← hPX] at hXr
  rw [← hPX]
  have hsr2:Wr.heap.size=PX+1:=by rw [hsr,hPX];simp
  have hge2:W0.heap.size+2≤PX:=by omega
  clear hPX hsr hgr hX hal hge hIW hI hsq
  have x0:Wr.cell? ⟨PX,0,none⟩=some (.int .i64 x.1):=hXr.cell 0
  have x1:Wr.cell? ⟨PX,1,none⟩=some (.int .i64 x.2):=hXr.cell 1
  have c0:=hIr.b.cell 0
  have p0:=hIr.p.cell 0
  have p1:=hIr.p.cell 1
  have o0:=hIr.o.cell 0
  have n0:=hIr.n.cell 0
  have pf:=hIr.p.frozen
  have of:=hIr.o.frozen
  have nf:=hIr.n.frozen
  by_cases hc:pre.length=k
  ·have HX:=kz (hIr.hit (x:=x) hc)
   have he:((pre.length:Int) == (k:Int))=true:=by simp [hc]
   have HC:=kz hc
   clear hc hIr hXr
   gi_wp2
   exact ⟨zf1 (Above.refl _ _) (by omega) _ _ _,oz HX⟩
  ·have HX:=kz (hIr.step (x:=x) hc)
   have he:((pre.length:Int) == (k:Int))=false:=by simp;omega
   clear hc hIr hXr
   gi_wp2
   exact ⟨(Above.refl _ _).set (by omega) _,KpQ.set _ _ (by omega) (by omega) (by omega),oz HX⟩
 case done =>
  rintro D ys W hD hys hIW hK
  subst hys
  have hB:=hIW.t
  have k2:=hIW.p
  have k3:=hIW.o
  have q0:=hIW.b.cell 0
  have n0:=hIW.n.cell 0
  have c0:=k2.cell 0
  have c1:=k2.cell 1
  have c3:=k3.cell 0
  have f0:=k2.frozen
  have f3:=k3.frozen
  have hle:=hIW.le
  clear hIW hI hsq
  apply oz hK1'
  by_cases hc:(zbi T s).length < k
  ·have HV:=kz (zjE hc)
   have hc2:decide (((zbi T s).length:Int) < (k:Int))=true:=by simpa using hc
   gi_wp2
   have hK':=(((KeepsOthers.setCell W ⟨w.heap.size+1,0,none⟩ (.int .i64 0)).trans (KeepsOthers.setCell _ ⟨w.heap.size+1,1,none⟩ (.int .i64 0))).trans (KeepsOthers.setCell _ ⟨w.heap.size+1+1,0,none⟩ (.bool false))).same D _ hK rfl
   have k2':=Blk.other (i:=0) ((k2.set 0 (.int .i64 0)).set 1 (.int .i64 0)) (B':=w.heap.size+1+1) (by omega) (.bool false)
   have k3':=((k3.other (B':=w.heap.size+1) (i:=0) (by omega) (.int .i64 0)).other (B':=w.heap.size+1) (i:=1) (by omega) (.int .i64 0)).set 0 (.bool false)
   have hB':=((hB.setCell (p:=⟨w.heap.size+1,0,none⟩) (by simp) (.int .i64 0)).setCell (p:=⟨w.heap.size+1,1,none⟩) (by simp) (.int .i64 0)).setCell (p:=⟨w.heap.size+1+1,0,none⟩) (by simp;omega) (.bool false)
   clear hK k2 k3 hB c0 c1 c3 f0 f3
   refine ⟨by simp,.inl ⟨_,_,rfl,run_takeDeferred hK', ?_⟩⟩
   have q2:=k2'.put (.deferred Option.none) hK' rfl
   have q3:=k3'.put (.deferred Option.none) hK' rfl
   have c0:=q2.cell 0
   have c1:=q2.cell 1
   have c3:=q3.cell 0
   refine ⟨.tuple #[.agg #[.int .i64 0,.int .i64 0],.bool false], ?_,by rw [oz HV];rfl,hB'.trans (belowK_b (w:=w) (Nat.le_refl _) _ D _ _ (by omega) hK' rfl rfl)⟩
   simp [results,Tryz.f13,go_sem,c0,c1,c3]
  ·have hek:(zbi T s).length=k:=by omega
   have HV:=kz (zjF hek)
   have hc2:decide (((zbi T s).length:Int) < (k:Int))=false:=by simpa using hc
   have HCT:=kz (zhN s hsm)
   have HK:=kz hK
   have HB:=kz hB
   have H2:=kz k2
   have H3:=kz k3
   clear hK hB k2 k3
   gi_wp2_with fail
   refine ⟨trivial, ?_⟩
   refine (callsIn_wide.2 (oz HCT W)).mono ?_
   rintro e W3 ⟨rfl,hb3⟩
   have k2:=(oz H2).below hb3 (oz H2).lt
   have k3:=(oz H3).below hb3 (oz H3).lt
   have hB:=(oz HB).trans (hb3.mono (oz HB).size)
   have hK:=(hb3.block D (Array.getElem?_eq_some_iff.1 (oz HK)).1).trans (oz HK)
   clear hb3 c0 c1 c3 f0 f3 q0 n0
   have c0:=k2.cell 0
   have c1:=k2.cell 1
   have c3:=k3.cell 0
   have f0:=k2.frozen
   have f3:=k3.frozen
   gi_wp2
   have hK':=(((KeepsOthers.setCell W3 ⟨w.heap.size+1,0,none⟩ (.int .i64 s.size)).trans (KeepsOthers.setCell _ ⟨w.heap.size+1,1,none⟩ (.int .i64 (zav s).length))).trans (KeepsOthers.setCell _ ⟨w.heap.size+1+1,0,none⟩ (.bool true))).same D _ hK rfl
   have k2':=Blk.other (i:=0) ((k2.set 0 (.int .i64 s.size)).set 1 (.int .i64 (zav s).length)) (B':=w.heap.size+1+1) (by omega) (.bool true)
   have k3':=((k3.other (B':=w.heap.size+1) (i:=0) (by omega) (.int .i64 s.size)).other (B':=w.heap.size+1) (i:=1) (by omega) (.int .i64 (zav s).length)).set 0 (.bool true)
   have hB':=((hB.setCell (p:=⟨w.heap.size+1,0,none⟩) (by simp) (.int .i64 s.size)).setCell (p:=⟨w.heap.size+1,1,none⟩) (by simp) (.int .i64 (zav s).length)).setCell (p:=⟨w.heap.size+1+1,0,none⟩) (by simp;omega) (.bool true)
   clear hK k2 k3 hB c0 c1 c3 f0 f3
   refine ⟨by simp,.inl ⟨_,_,rfl,run_takeDeferred hK', ?_⟩⟩
   have q2:=k2'.put (.deferred Option.none) hK' rfl
   have q3:=k3'.put (.deferred Option.none) hK' rfl
   have c0:=q2.cell 0
   have c1:=q2.cell 1
   have c3:=q3.cell 0
   refine ⟨.tuple #[.agg #[.int .i64 s.size,.int .i64 (zav s).length],.bool true], ?_,by rw [oz HV];rfl,hB'.trans (belowK_b (w:=w) (Nat.le_refl _) _ D _ _ (by omega) hK' rfl rfl)⟩
   simp [results,Tryz.f13,go_sem,c0,c1,c3]
 case stop =>
  rintro D c pre W hD hpre hX hK
  obtain ⟨rfl,⟨q,x,rfl,hq,k2⟩,k3,hB⟩:=hX
  obtain ⟨r,hr⟩:=hpre
  have HV:=kz (zif hr hq)
  clear hr hq hI hsq
  gi_wp2
  refine ⟨by simp,.inl ⟨_,_,rfl,run_takeDeferred hK, ?_⟩⟩
  have q2:=k2.put (.deferred Option.none) hK rfl
  have q3:=k3.put (.deferred Option.none) hK rfl
  have c0:=q2.cell 0
  have c1:=q2.cell 1
  have c3:=q3.cell 0
  refine ⟨.tuple #[.agg #[.int .i64 x.1,.int .i64 x.2],.bool true], ?_,by rw [oz HV];rfl,hB.trans (belowK_b (w:=w) (Nat.le_refl _) _ D _ _ (by omega) hK rfl rfl)⟩
  simp [results,Tryz.f13,go_sem,c0,c1,c3]
theorem zeL (T:TV) (hO:zar T) (s:ByteArray) (hs:s.size≤1000000000000) (k:Int) (hk:k≤9223372036854775807) (B:Nat) (w:World) (hbk:BookAt w B T) :
  Calls Tryz.prog 13 #[.pointer (some ⟨B,0,none⟩),.string s,.int .i64 k] w fun e w' =>e=.returned (zdp (zdw T s k))∧Below w.heap.size w w':=by
 by_cases h:k < 0
 ·rw [zjD h]
  exact callsIn_wide.1 (zjH 4 (Nat.le_refl _) s B k h w)
 ·obtain ⟨m,rfl⟩:∃ m:Nat,k=(m:Int):=⟨k.toNat,by omega⟩
  exact callsIn_wide.1 (place_in 4 (Nat.le_refl _) T hO s hs m (by omega) B w hbk)
attribute [local go_sem] Oper.semAt_some
set_option linter.unusedVariables false
end Go.Proofs.YtoaiicbicdhkkaaGreat
namespace Go.Proofs.YtoaiicbicdhkkaaGreat
open Go.RowKit Go.Shelf Go.Maps
set_option linter.unusedVariables false
theorem run_k1:zd2 HT ⟨#[97,226,128,141,98,255]⟩=⟨#[97,98,239,191,189]⟩:=by decide +kernel
theorem run_k2:(zav ⟨#[226,128,141,97,226,128,141]⟩).length - (zbi HT ⟨#[226,128,141,97,226,128,141]⟩).length=2:=by decide +kernel
theorem known11 (w:World):Calls Tryz.prog 11 #[] w fun e w' =>e=.returned (.bool true)∧Below w.heap.size w w':=by
 go_enter Tryz.func11,Tryz.ntmps11
 go_wp2_with fail
 refine (zhF w).mono ?_
 rintro e w1 ⟨v,rfl,hv,hb1⟩
 have HB1:=kz hb1
 have HC:=kz (zfH v w1 hv)
 clear hv hb1
 go_wp2_with fail
 refine (oz HC).mono ?_
 rintro e w2 ⟨B,rfl,hO,_,hbk,hb2⟩
 have HB2:=kz ((oz HB1).trans (hb2.mono (oz HB1).size))
 have H1:=zeI HT hO ⟨#[97,226,128,141,98,255]⟩ (by decide) B w2 hbk
 rw [run_k1] at H1
 have HH1:=kz H1
 have H2:=kz (fun w3 (h:Below w2.heap.size w2 w3) =>zjZ HT hO ⟨#[226,128,141,97,226,128,141]⟩ (by decide) B w3 (hbk.below h))
 rw [run_k2] at H2
 clear hb2 hbk H1
 go_wp2_with fail
 refine (oz HH1).mono ?_
 rintro e w3 ⟨rfl,hb3⟩
 have HH2:=kz (oz H2 w3 hb3)
 have HB3:=kz ((oz HB2).trans (hb3.mono (oz HB2).size))
 clear hb3 H2
 go_wp2_with fail
 refine (oz HH2).mono ?_
 rintro e w4 ⟨rfl,hb4⟩
 have HB4:=kz ((oz HB3).trans (hb4.mono (oz HB3).size))
 clear hb4
 go_wp2
 go_ret
 exact ⟨rfl,oz HB4⟩
end Go.Proofs.YtoaiicbicdhkkaaGreat
