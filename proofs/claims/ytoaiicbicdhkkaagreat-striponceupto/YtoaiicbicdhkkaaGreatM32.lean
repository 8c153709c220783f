/- Texts of this claim, one behind the other. -/
import Derived.Test.YtoaiicbicdhkkaaGreatM31
/- strip.First, zgf for every Book and every text that is not too great. -/
namespace Go.Proofs.YtoaiicbicdhkkaaGreat
open Go.RowKit Go.Shelf Go.Maps
attribute [local go_sem] Oper.semAt_some
set_option linter.unusedVariables false
def ziA (T:TV) (s:ByteArray) (i:Nat):Bool:=zfc s i || drB T (rn s i)
def zfN (T:TV) (s:ByteArray):Option (Nat × Nat):=(spN s).find? fun x =>ziA T s x.1
def zdp (o:Option (Nat × Nat)):Value:=match o with
 | some x =>.tuple #[.agg #[.int .i64 x.1,.int .i64 x.2],.bool true]
 | none =>.tuple #[.agg #[.int .i64 0,.int .i64 0],.bool false]
theorem ziG {T:TV} {s:ByteArray} (h:∀ i ∈ zav s,ziA T s i=false):zfN T s=none:=by
 unfold zfN spN
 rw [List.find?_eq_none]
 intro x hx
 obtain ⟨_,_,h3⟩:=List.mem_zipIdx hx
 have:=h x.1 (by rw [h3];exact List.getElem_mem _)
 simp [this]
theorem ziF {T:TV} {s:ByteArray} {q r:List Nat} {x:Nat} (he:zav s=q++[x]++r) (h:∀ i ∈ q,ziA T s i=false) (hx:ziA T s x=true):zfN T s=some (x,q.length):=by
 unfold zfN spN
 rw [he,List.append_assoc,List.zipIdx_append,List.find?_append]
 have h0:q.zipIdx.find? (fun x =>ziA T s x.1)=none:=by
  rw [List.find?_eq_none]
  intro y hy
  obtain ⟨_,_,h3⟩:=List.mem_zipIdx hy
  have:=h y.1 (by rw [h3];exact List.getElem_mem _)
  simp [this]
 rw [h0]
 simp [List.zipIdx_cons,hx]
structure FiI (w:World) (T:TV) (B:Nat) (s:ByteArray) (pre:List Nat) (W:World):Prop where
 no:∀ i ∈ pre,ziA T s i=false
 b:Blk W w.heap.size #[.pointer (some ⟨B,0,none⟩)] 22
 p:Blk W (w.heap.size+1) #[.int .i64 0,.int .i64 0] 35
 o:Blk W (w.heap.size+1+1) #[.bool false] 4
 n:Blk W (w.heap.size+1+1+1) #[.int .i64 pre.length] 3
 t:Below w.heap.size w W
theorem FiI.below {w:World} {T:TV} {B A:Nat} {s:ByteArray} {pre:List Nat} {X Y:World} (h:FiI w T B s pre X) (hb:Below A X Y) (hA:w.heap.size+4≤A):FiI w T B s pre Y :=
 ⟨h.no,h.b.below hb (by omega),h.p.below hb (by omega),h.o.below hb (by omega),h.n.below hb (by omega),h.t.trans (hb.mono (by omega))⟩
structure FiX (w:World) (T:TV) (s:ByteArray) (c:Code) (pre:List Nat) (W:World):Prop where
 c:c=.ret
 f:∃ q x,pre=q++[x]∧(∀ i ∈ q,ziA T s i=false)∧ziA T s x=true∧Blk W (w.heap.size+1) #[.int .i64 x,.int .i64 q.length] 35
 o:Blk W (w.heap.size+1+1) #[.bool true] 4
 t:Below w.heap.size w W
theorem FiX.below {w:World} {T:TV} {A:Nat} {s:ByteArray} {c:Code} {pre:List Nat} {X Y:World} (h:FiX w T s c pre X) (hb:Below A X Y) (hA:w.heap.size+4≤A):FiX w T s c pre Y:=by
 obtain ⟨q,x,h1,h2,h3,h4⟩:=h.f
 exact ⟨h.c,⟨q,x,h1,h2,h3,h4.below hb (by omega)⟩,h.o.below hb (by omega),h.t.trans (hb.mono (by omega))⟩
theorem FiI.hit {w:World} {T:TV} {B:Nat} {s:ByteArray} {pre:List Nat} {X:World} {x:Nat} (h:FiI w T B s pre X) (hx:ziA T s x=true):FiX w T s .ret (pre++[x]) (((X.setCell ⟨w.heap.size+1,0,none⟩ (.int .i64 x)).setCell ⟨w.heap.size+1,1,none⟩ (.int .i64 pre.length)).setCell ⟨w.heap.size+1+1,0,none⟩ (.bool true)) :=
 ⟨rfl,⟨pre,x,rfl,h.no,hx,((h.p.set 0 _).set 1 _).other (by omega) _⟩,((h.o.other (by omega) _).other (by omega) _).set 0 _,
  ((h.t.setCell (p:=⟨w.heap.size+1,0,none⟩) (by simp) _).setCell (p:=⟨w.heap.size+1,1,none⟩) (by simp) _).setCell (p:=⟨w.heap.size+1+1,0,none⟩) (by simp;omega) _⟩
theorem FiI.step {w:World} {T:TV} {B:Nat} {s:ByteArray} {pre:List Nat} {X:World} {x:Nat} (h:FiI w T B s pre X) (hx:ziA T s x=false):FiI w T B s (pre++[x]) (X.setCell ⟨w.heap.size+1+1+1,0,none⟩ (.int .i64 ((pre.length:Int)+1))):=by
 refine ⟨fun i hi =>?_,h.b.other (by omega) _,h.p.other (by omega) _,h.o.other (by omega) _, ?_,h.t.setCell (p:=⟨w.heap.size+1+1+1,0,none⟩) (by simp;omega) _⟩
 ·rcases List.mem_append.1 hi with h1 | h1
  ·exact h.no i h1
  ·rw [List.mem_singleton.1 h1];exact hx
 ·rw [show (((pre++[x]).length:Nat):Int)=(pre.length:Int)+1 by simp]
  exact h.n.set 0 _
theorem zf1 {A b:Nat} {X Y:World} (h:Above A X Y) (h1:b+1 < A) (u1 u2 u3:Value):Above A X (((Y.setCell ⟨b,0,none⟩ u1).setCell ⟨b,1,none⟩ u2).setCell ⟨b+1,0,none⟩ u3):=((h.set (by omega) _).set (by omega) _).set h1 _
set_option maxRecDepth 100000 in
set_option maxHeartbeats 4000000 in
theorem firstB_in (n:Nat) (hn:4≤n) (T:TV) (hO:zar T) (s:ByteArray) (hs:s.size≤1000000000000) (B:Nat) (w:World) (hbk:BookAt w B T) :
  CallsIn Fence.wide n Tryz.prog 12 #[.pointer (some ⟨B,0,none⟩),.string s] w fun e w' =>e=.returned (zdp (zfN T s))∧Below w.heap.size w w':=by
 have h1:1≤n:=by omega
 have hsm:s.size≤maxLen:=by unfold maxLen;omega
 have hsl:(zav s).length≤s.size:=zaL s
 refine callsIn_of_wp_marks Tryz.func12 rfl trivial ?_ rfl
 simp only [Tryz.ntmps12,List.size_toArray,List.length_cons,List.length_nil,Nat.reduceAdd,Nat.reduceSub,Array.replicate_succ,Array.replicate_zero,List.push_toArray,List.append_toArray,List.nil_append,List.cons_append]
 gi_wp2_with (refine ⟨trivial, ?_⟩;gi_at_call 33;refine (callsIn_wide.2 (zhj _ _)).mono ?_;rintro e w' ⟨rfl,rfl⟩)
 have hDR:=kz (fun (r:Int) (w1:World) (h:Below w.heap.size w w1) =>zbX hO B r w1 (hbk.below h))
 obtain ⟨W0,hW0⟩:∃ W0,W0=((((w.alloc (.cells #[.pointer (some ⟨B,0,none⟩)] 22)).alloc (.cells #[.int .i64 0,.int .i64 0] 35)).alloc (.cells #[.bool false] 4)).alloc (.cells #[.int .i64 0] 3)).alloc (.cells #[.string s] 9):=⟨_,rfl⟩
 have hI:FiI w T B s [] W0:=by
  rw [hW0]
  have b0:=(((Blk.new w #[.pointer (some ⟨B,0,none⟩)] 22).alloc (.cells #[.int .i64 0,.int .i64 0] 35)).alloc (.cells #[.bool false] 4)).alloc (.cells #[.int .i64 0] 3)
  have b1:=((Blk.new (w.alloc (.cells #[.pointer (some ⟨B,0,none⟩)] 22)) #[.int .i64 0,.int .i64 0] 35).alloc (.cells #[.bool false] 4)).alloc (.cells #[.int .i64 0] 3)
  have b2:=(Blk.new ((w.alloc (.cells #[.pointer (some ⟨B,0,none⟩)] 22)).alloc (.cells #[.int .i64 0,.int .i64 0] 35)) #[.bool false] 4).alloc (.cells #[.int .i64 0] 3)
  have b3:=Blk.new (((w.alloc (.cells #[.pointer (some ⟨B,0,none⟩)] 22)).alloc (.cells #[.int .i64 0,.int .i64 0] 35)).alloc (.cells #[.bool false] 4)) #[.int .i64 0] 3
  simp only [World.size_alloc] at b1 b2 b3
  exact ⟨(fun i hi =>by cases hi),b0.alloc _,b1.alloc _,b2.alloc _,b3.alloc _,((((((Below.refl w.heap.size w).alloc (Nat.le_refl _) _).alloc (by simp) _).alloc (by simp;omega) _).alloc (by simp;omega) _).alloc (by simp;omega) _)⟩
 have hS:W0.cell? ⟨w.heap.size+1+1+1+1,0,none⟩=some (.string s):=by
  have b4:=Blk.new ((((w.alloc (.cells #[.pointer (some ⟨B,0,none⟩)] 22)).alloc (.cells #[.int .i64 0,.int .i64 0] 35)).alloc (.cells #[.bool false] 4)).alloc (.cells #[.int .i64 0] 3)) #[.string s] 9
  simp only [World.size_alloc] at b4
  rw [hW0]
  exact b4.cell 0
 have hsz:W0.heap.size=w.heap.size+5:=by rw [hW0];simp
 rw [← hW0]
 clear hW0 hbk
 have hge0:w.heap.size+5≤W0.heap.size:=by omega
 clear hsz
 refine zc3 rfl h1 (gf:=51) (lb:=#[.pointer (some ⟨w.heap.size+1+1+1+1,0,none⟩)]) rfl trivial (enters_of Tryz.func51 (by kernel_rfl) rfl)
  (zjs (n - 1) (w.heap.size+1+1+1+1) (by omega) s hsm W0 hS) KpO_t (fun W l o hl =>KpO_b W l o (by omega)) (Below.refl _ _) (fun _ =>rfl)
  (FiI w T B s) (FiX w T s) (fun p X Y h hb =>h.below hb (by omega)) (fun c p X Y h hb =>h.below hb (by omega)) hI ?round ?done ?stop
 case round =>
  rintro pre x W hIW hpx hge
  have hal:=(Below.refl W.heap.size W).alloc (Nat.le_refl _) (.cells (zfv (zgJ s x)) 66)
  have hX:=Blk.new W (zfv (zgJ s x)) 66
  have hpl:pre.length < s.size:=by
   have h2:=hpx.length_le
   rw [List.length_append,List.length_singleton] at h2
   omega
  dsimp only [ziJ]
  gi_wp2
  refine ⟨Above.below hal,hal.block _ (by omega),hIW.below hal (by omega), ?_⟩
  intro Wr hgr hsr hIr
  have hXr:=hX.kept hgr (by simp;omega)
  obtain ⟨PX,hPX⟩:∃ PX,PX=W.heap.size:=⟨_,rfl⟩
  rw [← hPX] at hXr
  rw [← hPX]
  have hsr2:Wr.heap.size=PX+1:=by rw [hsr,hPX];simp
  have hge2:W0.heap.size+2≤PX:=by omega
  clear hPX hsr hgr hX hal hge hIW
  have x2:Wr.cell? ⟨PX,2,none⟩=some (.bool (zfc s x)):=hXr.cell 2
  have x0:Wr.cell? ⟨PX,0,none⟩=some (.int .i32 (rn s x)):=hXr.cell 0
  have c0:=hIr.b.cell 0
  have p0:=hIr.p.cell 0
  have p1:=hIr.p.cell 1
  have o0:=hIr.o.cell 0
  have n0:=hIr.n.cell 0
  have pf:=hIr.p.frozen
  have of:=hIr.o.frozen
  have nf:=hIr.n.frozen
  have HI:=kz hIr
  have hdep:Fence.wide.depth.isSome=true→1≤n - 1 - 1:=fun _ =>by omega
  cases hb:zfc s x with
  | true =>
   rw [hb] at x2
   have HX:=kz ((oz HI).hit (x:=x) (by unfold ziA;rw [hb];rfl))
   clear hb hIr hXr
   gi_wp2
   refine ⟨trivial, ?_⟩
   go_at_K
   gi_wp2
   exact ⟨zf1 (Above.refl _ _) (by omega) _ _ _,oz HX⟩
  | false =>
   rw [hb] at x2
   have HDD:=kz (oz hDR (rn s x) Wr hIr.t)
   cases hd:drB T (rn s x) with
   | true =>
    have hhit:ziA T s x=true:=by unfold ziA;rw [hd,Bool.or_true]
    rw [hd] at HDD
    have HHIT:=kz hhit
    clear hb hd hhit hIr hXr
    gi_wp2_with fail
    refine ⟨trivial,fun _ =>by omega, ?_⟩
    refine (CallsIn.inRound _ (callsIn_wide.2 (oz HDD))).mono ?_
    rintro e W3 ⟨rfl,hb3⟩
    have hI3:=(oz HI).below hb3 (by omega)
    have hA3:=kz (Above.below (B:=W0.heap.size) hb3)
    have HX:=kz (hI3.hit (oz HHIT))
    have n0:=hI3.n.cell 0
    have p0:=hI3.p.cell 0
    have p1:=hI3.p.cell 1
    have o0:=hI3.o.cell 0
    have pf:=hI3.p.frozen
    have of:=hI3.o.frozen
    clear hI3 hb3 HDD x2 x0 c0
    gi_wp2
    exact ⟨zf1 (oz hA3) (by omega) _ _ _,oz HX⟩
   | false =>
    have hhit:ziA T s x=false:=by unfold ziA;rw [hb,hd];rfl
    rw [hd] at HDD
    have HHIT:=kz hhit
    clear hb hd hhit hIr hXr
    gi_wp2_with fail
    refine ⟨trivial,fun _ =>by omega, ?_⟩
    refine (CallsIn.inRound _ (callsIn_wide.2 (oz HDD))).mono ?_
    rintro e W3 ⟨rfl,hb3⟩
    have hI3:=(oz HI).below hb3 (by omega)
    have hA3:=kz (Above.below (B:=W0.heap.size) hb3)
    have hK3:=kz (hb3.block (w.heap.size+1+1+1+1) (by omega))
    have HX:=kz (hI3.step (oz HHIT))
    have n0:=hI3.n.cell 0
    have nf:=hI3.n.frozen
    clear hI3 hb3 HDD x2 x0 c0
    gi_wp2
    exact ⟨(oz hA3).set (by omega) _,(Below.heap_setCell _ _ _ _ (by show _≠w.heap.size+1+1+1;omega)).trans (oz hK3),oz HX⟩
 case done =>
  rintro D ys W hD hys hIW hK
  have HV:=kz (ziG (T:=T) (s:=s) (by rw [← hys];exact hIW.no))
  have k2:=hIW.p
  have k3:=hIW.o
  have hB:=hIW.t
  have c0:=k2.cell 0
  have c1:=k2.cell 1
  have c3:=k3.cell 0
  have f0:=k2.frozen
  have f3:=k3.frozen
  clear hys hIW hI hS
  gi_wp2
  have hK':=(((KeepsOthers.setCell W ⟨w.heap.size+1,0,none⟩ (.int .i64 0)).trans (KeepsOthers.setCell _ ⟨w.heap.size+1,1,none⟩ (.int .i64 0))).trans (KeepsOthers.setCell _ ⟨w.heap.size+1+1,0,none⟩ (.bool false))).same D _ hK rfl
  have k2':=Blk.other (i:=0) ((k2.set 0 (.int .i64 0)).set 1 (.int .i64 0)) (B':=w.heap.size+1+1) (by omega) (.bool false)
  have k3':=((k3.other (B':=w.heap.size+1) (i:=0) (by omega) (.int .i64 0)).other (B':=w.heap.size+1) (i:=1) (by omega) (.int .i64 0)).set 0 (.bool false)
  have hB':=((hB.setCell (p:=⟨w.heap.size+1,0,none⟩) (by simp) (.int .i64 0)).setCell (p:=⟨w.heap.size+1,1,none⟩) (by simp) (.int .i64 0)).setCell (p:=⟨w.heap.size+1+1,0,none⟩) (by simp;omega) (.bool false)
  clear hK k2 k3 hB c0 c1 c3 f0 f3
  refine ⟨by simp,.inl ⟨_,_,rfl,run_takeDeferred hK', ?_⟩⟩
  have q2:=k2'.put (.deferred Option.none) hK' rfl
  have q3:=k3'.put (.deferred Option.none) hK' rfl
  have c0:=q2.cell 0
  have c1:=q2.cell 1
  have c3:=q3.cell 0
  refine ⟨.tuple #[.agg #[.int .i64 0,.int .i64 0],.bool false], ?_,by rw [oz HV];rfl,hB'.trans (belowK_b (w:=w) (Nat.le_refl _) _ D _ _ (by omega) hK' rfl rfl)⟩
  simp [results,Tryz.f12,go_sem,c0,c1,c3]
 case stop =>
  rintro D c pre W hD hpre hX hK
  obtain ⟨rfl,⟨q,x,rfl,hq,hx,k2⟩,k3,hB⟩:=hX
  obtain ⟨r,hr⟩:=hpre
  have HV:=kz (ziF (T:=T) hr.symm hq hx)
  clear hr hx hq hI hS
  gi_wp2
  refine ⟨by simp,.inl ⟨_,_,rfl,run_takeDeferred hK, ?_⟩⟩
  have q2:=k2.put (.deferred Option.none) hK rfl
  have q3:=k3.put (.deferred Option.none) hK rfl
  have c0:=q2.cell 0
  have c1:=q2.cell 1
  have c3:=q3.cell 0
  refine ⟨.tuple #[.agg #[.int .i64 x,.int .i64 q.length],.bool true], ?_,by rw [oz HV];rfl,hB.trans (belowK_b (w:=w) (Nat.le_refl _) _ D _ _ (by omega) hK rfl rfl)⟩
  simp [results,Tryz.f12,go_sem,c0,c1,c3]
theorem zjV (T:TV) (hO:zar T) (s:ByteArray) (hs:s.size≤1000000000000) (B:Nat) (w:World) (hbk:BookAt w B T):Calls Tryz.prog 12 #[.pointer (some ⟨B,0,none⟩),.string s] w fun e w' =>e=.returned (zdp (zfN T s))∧Below w.heap.size w w' :=
 callsIn_wide.1 (firstB_in 4 (Nat.le_refl _) T hO s hs B w hbk)
attribute [local go_sem] Oper.semAt_some
set_option linter.unusedVariables false
def zkM (T:TV) (s t:ByteArray):Bool:=(zd2 T s).toList == (zd2 T t).toList
theorem zhn (T:TV) (hO:zar T) (s t:ByteArray) (hs:s.size≤1000000000000) (ht:t.size≤1000000000000) (B:Nat) (w:World) (hbk:BookAt w B T) :
  Calls Tryz.prog 14 #[.pointer (some ⟨B,0,none⟩),.string s,.string t] w fun e w' =>e=.returned (.bool (zkM T s t))∧Below w.heap.size w w':=by
 have H1:=kz (zeI T hO s hs B w hbk)
 have H2:=kz (fun w1 (h:Below w.heap.size w w1) =>zeI T hO t ht B w1 (hbk.below h))
 have HV:=kz (show ((zd2 T s).toList == (zd2 T t).toList)=zkM T s t from rfl)
 clear hbk
 generalize zd2 T s=S1 at *
 generalize zd2 T t=S2 at *
 generalize zkM T s t=a at *
 go_enter Tryz.func14,Tryz.ntmps14
 go_wp2_with fail
 refine (oz H1).mono ?_
 rintro e w1 ⟨rfl,hb1⟩
 have HB1:=kz hb1
 have H3:=kz (oz H2 w1 hb1)
 clear hb1
 go_wp2_with fail
 refine (oz H3).mono ?_
 rintro e w2 ⟨rfl,hb2⟩
 have HB2:=kz ((oz HB1).trans (hb2.mono (oz HB1).size))
 clear hb2
 go_wp2
 go_ret
 exact ⟨by rw [← oz HV];rfl,oz HB2⟩
attribute [local go_sem] Oper.semAt_some
set_option linter.unusedVariables false
end Go.Proofs.YtoaiicbicdhkkaaGreat
namespace Go.Proofs.YtoaiicbicdhkkaaGreat
open Go.RowKit Go.Shelf Go.Maps
set_option linter.unusedVariables false
theorem run_k1:zd2 HT ⟨#[97,226,128,141,98,255]⟩=⟨#[97,98,239,191,189]⟩:=by decide +kernel
theorem run_k2:(zav ⟨#[226,128,141,97,226,128,141]⟩).length - (zbi HT ⟨#[226,128,141,97,226,128,141]⟩).length=2:=by decide +kernel
theorem known11 (w:World):Calls Tryz.prog 11 #[] w fun e w' =>e=.returned (.bool true)∧Below w.heap.size w w':=by
 go_enter Tryz.func11,Tryz.ntmps11
 go_wp2_with fail
 refine (zhF w).mono ?_
 rintro e w1 ⟨v,rfl,hv,hb1⟩
 have HB1:=kz hb1
 have HC:=kz (zfH v w1 hv)
 clear hv hb1
 go_wp2_with fail
 refine (oz HC).mono ?_
 rintro e w2 ⟨B,rfl,hO,_,hbk,hb2⟩
 have HB2:=kz ((oz HB1).trans (hb2.mono (oz HB1).size))
 have H1:=zeI HT hO ⟨#[97,226,128,141,98,255]⟩ (by decide) B w2 hbk
 rw [run_k1] at H1
 have HH1:=kz H1
 have H2:=kz (fun w3 (h:Below w2.heap.size w2 w3) =>zjZ HT hO ⟨#[226,128,141,97,226,128,141]⟩ (by decide) B w3 (hbk.below h))
 rw [run_k2] at H2
 clear hb2 hbk H1
 go_wp2_with fail
 refine (oz HH1).mono ?_
 rintro e w3 ⟨rfl,hb3⟩
 have HH2:=kz (oz H2 w3 hb3)
 have HB3:=kz ((oz HB2).trans (hb3.mono (oz HB2).size))
 clear hb3 H2
 go_wp2_with fail
 refine (oz HH2).mono ?_
 rintro e w4 ⟨rfl,hb4⟩
 have HB4:=kz ((oz HB3).trans (hb4.mono (oz HB3).size))
 clear hb4
 go_wp2
 go_ret
 exact ⟨rfl,oz HB4⟩
end Go.Proofs.YtoaiicbicdhkkaaGreat
