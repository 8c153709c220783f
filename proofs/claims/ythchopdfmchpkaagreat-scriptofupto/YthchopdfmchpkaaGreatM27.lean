/- Texts of this claim, one behind the other. -/
import Derived.Test.YthchopdfmchpkaaGreatM26
import Derived.RangeFuncBox
import Derived.Laws.BytesArg
namespace Go.Proofs.YthchopdfmchpkaaGreat
set_option linter.unusedVariables false
section
open Go.RowKit Go.Shelf Go.Maps
attribute [local go_sem] Oper.semAt_some
set_option maxRecDepth 100000
set_option maxHeartbeats 8000000
theorem Z1 (T:TV) (l:List (Int × Bool)):(jU T l).1.length≤T.sc.length:=by
 rw [ZM];refine Nat.le_trans (List.length_filter_le _ _) ?_;rw [List.length_range];exact zD
theorem Qi {W:World} {lo E sz n B:Nat} {v:Value} {xs:List Value} {cs:Array Value} {t:TypeId} (h:W.ownsRow lo E sz v n xs) (hb:Blk W B cs t) (ht:t≠E) (i:Nat) (u:Value):(W.setCell ⟨B,i,none⟩ u).ownsRow lo E sz v n xs:=by
 refine h.kept (zV W ⟨B,i,none⟩ u) ?_;rcases h.2 with ⟨rfl,_⟩ | ⟨g,cap,cur,rfl,_,hg,_⟩
 ·exact .inl rfl
 ·refine .inr fun e =>?_
  have e:g=B:=by simpa [Value.ownBlock] using e
  subst e;rw [show W.heap[g]?=_ from hb] at hg;injection hg with hg;injection hg with _ h2;exact ht h2
theorem zeL (s:ByteArray) (i:Nat):R32 (rn s i:Int):=by
 have:=zcg _ (ze6 s i);unfold R32;omega
def TiI (w:World) (Bb Bt Bs lo B:Nat) (T:TV) (s:ByteArray) (pre:List Nat) (W:World):Prop :=
 ∃ v,Blk W Bt #[v,.bool (jU T (pre.map (spX s))).2] 104∧W.ownsRow lo 3 1 v (jU T (pre.map (spX s))).1.length ((jU T (pre.map (spX s))).1.map qA)∧Blk W Bb #[.pointer (some ⟨B,0,none⟩)] 22∧Blk W Bs #[.string s] 9∧Below w.heap.size w W∧lo≤W.heap.size∧v.ownBlock≠some (Bt+1)
theorem TiI.own {w:World} {Bb Bt Bs lo B A:Nat} {T:TV} {s:ByteArray} (h1:w.heap.size≤A):OwnFrom A (TiI w Bb Bt Bs lo B T s):=by
 rintro p X Y row ⟨v,hv,hr,hb,hs,hl,hz,hn⟩ hg hrow;have ho:∀ {Bq:Nat} {cs:Array Value} {t:TypeId},Blk X Bq cs t→Blk Y Bq cs t:=fun {Bq cs t} h =>h.kept hg (fun e' =>by
  obtain ⟨_,o,ho,hc⟩:=hrow Bq e'.symm;rw [show X.heap[Bq]?=_ from h] at ho;cases ho;cases hc)
 refine ⟨v,ho hv,hr.kept hg ?_,ho hb,ho hs,hl.grown hg hl.size (fun j e =>by have:=(hrow j e).1;omega),Nat.le_trans hz hg.size,hn⟩;rcases hr.2 with ⟨rfl,_⟩ | ⟨g,cap,cur,rfl,_,hgb,_⟩
 ·exact .inl rfl
 ·refine .inr fun e' =>?_
  obtain ⟨_,o,ho,hc⟩:=hrow g (by simpa [Value.ownBlock] using e'.symm);rw [hgb] at ho;cases ho;cases hc
theorem TiI.alloc {w W:World} {Bb Bt Bs lo B:Nat} {T:TV} {s:ByteArray} {pre:List Nat} (h:TiI w Bb Bt Bs lo B T s pre W) (o:Obj):TiI w Bb Bt Bs lo B T s pre (W.alloc o):=by
 obtain ⟨v,hv,hr,hb,hs,hl,hz,hn⟩:=h;exact ⟨v,hv.alloc o,hr.alloc o,hb.alloc o,hs.alloc o,hl.alloc hl.size o,by simp;omega,hn⟩
theorem Zy {W W':World} (h:Below W.heap.size W W'):KeepsOthers W W':=KeepsOthers.of_grownBy (XI h) (fun j o ej _ =>by cases ej)
theorem zi8 (n:Nat) (hn:4≤n) (T:TV) (hO:zx T) (s:ByteArray) (hs:s.size≤1000000000000) (B:Nat) (w:World) (hbk:BookAt w B T) :
  CallsIn Fence.wide n Tryz.prog 12 #[.pointer (some ⟨B,0,none⟩),.string s] w fun e w' => ∃ v,e=.returned v∧w'.ownsRow w.heap.size 3 1 v (ZT T s).length ((ZT T s).map qA)∧Below w.heap.size w w':=by
 have h1:1≤n:=by omega
 have hsm:s.size≤maxLen:=by unfold maxLen;omega
 have hsl:(zh s).length≤s.size:=zX s;have hL:=hO.l0;refine callsIn_of_wp_marks Tryz.func12 rfl trivial ?_ rfl;simp only [Tryz.ntmps12,List.size_toArray,List.length_cons,List.length_nil,Nat.reduceAdd,Nat.reduceSub,Array.replicate_succ,Array.replicate_zero,List.push_toArray,List.append_toArray,List.nil_append,List.cons_append];have hb1:=(Below.refl w.heap.size w).alloc zD (.cells #[.pointer (some ⟨B,0,none⟩)] 22);have hk1:=Blk.new w #[.pointer (some ⟨B,0,none⟩)] 22;have hz1:(w.alloc (.cells #[.pointer (some ⟨B,0,none⟩)] 22)).heap.size=w.heap.size+1:=by simp
 have HU:=kz (KH hO B _ (hbk.below hb1));have HB1:=kz hb1;have HK1:=kz hk1;clear hb1 hk1
 gi_wp2_with fail
 generalize w.alloc _=W1 at *;refine ⟨trivial, ?_⟩;refine (callsIn_wide.2 (oz HU)).mono ?_;rintro e w1 ⟨v0,rfl,ho0,hb⟩;have ho:=ho0;rw [List.length_range] at ho0;obtain ⟨a0,c0,rfl⟩:=zL ho0;clear ho0;have hs1:=hb.size;have hB1:=(oz HB1).trans (hb.mono (oz HB1).size);have hK1:=(oz HK1).below hb (oz HK1).lt;have hTI:TiI w w.heap.size w1.heap.size (w1.heap.size+1) W1.heap.size B T s [] ((w1.alloc (.cells #[.slice a0 T.sc.length c0,.bool false] 104)).alloc (.cells #[.string s] 9)):=by
  have t1:=(Blk.new w1 #[.slice a0 T.sc.length c0,.bool false] 104).alloc (.cells #[.string s] 9);have t2:=Blk.new (w1.alloc (.cells #[.slice a0 T.sc.length c0,.bool false] 104)) #[.string s] 9;simp only [World.size_alloc] at t2;exact ⟨.slice a0 T.sc.length c0,t1,(ho.alloc _).alloc _,(hK1.alloc _).alloc _,t2,(hB1.alloc hB1.size _).alloc (by have:=hB1.size;simp;omega) _,by simp;omega,fun e =>by have:=(ho.lt _ e).2;omega⟩
 have hz0:((w1.alloc (.cells #[.slice a0 T.sc.length c0,.bool false] 104)).alloc (.cells #[.string s] 9)).heap.size=w1.heap.size+2:=by simp
 have HTI:=kz hTI;have HBK:=kz (fun W (h:Below w.heap.size w W) =>hbk.below h);have HO:=kz hO;clear HU HB1 HK1 ho hb hB1 hK1 hTI hbk hO
 gi_wp2_with (refine ⟨trivial, ?_⟩;gi_at_call 41;refine (callsIn_wide.2 (Z9 _ _)).mono ?_;rintro e w' ⟨rfl,rfl⟩)
 generalize (w1.alloc _).alloc _=W0 at *;obtain ⟨Bt,hBt⟩:∃ Bt,Bt=w1.heap.size:=⟨_,rfl⟩;rw [← hBt] at HTI hz0 ⊢;have hge:w.heap.size+1≤Bt:=by omega
 have hW1:=hz1;clear hBt hs1
 refine wpIn_rangeFunc_ownH rfl h1 (gf:=69) (lb:=#[.pointer (some ⟨Bt+1,0,none⟩)]) rfl trivial (enters_of Tryz.func69 (by kernel_rfl) rfl)
  (ZU (n - 1) (Bt+1) (by omega) s hsm W0 ((oz HTI).choose_spec.2.2.2.1.cell 0)) ziK (ziL (by omega)) zl (fun _ =>rfl)
  (TiI w w.heap.size Bt (Bt+1) W1.heap.size B T s) (fun _ _ _ =>False) (TiI.own (by omega)) (fun _ _ _ _ _ h _ _ =>h) (oz HTI)
  (fun x a' W => ∃ Bx,Blk W Bx (Zf (ZQ s x)) 110∧a' = { tmps:=#[.pointer (some ⟨B,0,none⟩),.string s,.pointer (some ⟨w.heap.size,0,none⟩),undef,.slice none 0 0,.pointer (some ⟨Bt,0,none⟩),undef,.pointer (some ⟨Bx,0,none⟩),.pointer (some ⟨B,0,none⟩),.bool false,.pointer (some ⟨B,0,none⟩),.agg #[.slice a0 T.sc.length c0,.bool false],.string s,.func (.func 69) #[] #[.pointer (some ⟨Bt+1,0,none⟩)],.int .i64 x,Y9 (ZQ s x),undef,undef,undef,undef,undef,undef],defers := [] })
  (fun x a' =>Own.from (fun u A B row hs hg hr =>by
   obtain ⟨Bx,h2,h3⟩:=hs;exact ⟨Bx,Blk.own _ (fun _ =>_) _ () A B row h2 hg hr,h3⟩) _)
  ?assign ?body ?done ?stop
 case assign =>
  rintro l pre x W K hI hK
  gi_wp2
  refine hK _ _ ((KeepsOthers.alloc _ _).from _) ⟨?_,KeepsWalks.alloc _ _⟩ (hI.alloc _) ⟨W.heap.size,Blk.new W _ 110,rfl⟩;obtain ⟨v,_,_,_,hS,_,_⟩:=hI;exact ((hS.alloc _).cell 0).trans (hS.cell 0).symm
 case body =>
  rintro l pre x a' W hl ⟨r,hr⟩ ⟨v,hT,hR,hB,hS,hl2,hlo,hnb⟩ ⟨Bx,bX,rfl⟩ hlt;have t0:=hT.cell 0;have t1:=hT.cell 1;have tf:=hT.frozen;have x0:=bX.cell 0;have x1:=bX.cell 1;have x2:=bX.cell 2;have b0:=hB.cell 0;have hlen:=Z1 T (pre.map (spX s));have HSN:Hz (jU T ((pre++[x]).map (spX s))=zay T (jU T (pre.map (spX s))) (spX s x)):=kz (by rw [List.map_append,List.map_singleton,za5]);have HW:=kz (zcX (oz HO) B v (jU T (pre.map (spX s))).1 (jU T (pre.map (spX s))).2 (rn s x) (wd s x) (j6 s x) (zeL s x) (by omega) (fun n hn =>by have:=(zbT.1 hn).1;omega) _ W (oz HBK W hl2) hR hlo);have HH:=kz (yB hT (yB hB (yB hS hl2)));clear hT hR hB hS hl2 bX hr;obtain ⟨tn,htn⟩:∃ tn,tn=jU T ((pre++[x]).map (spX s)):=⟨_,rfl⟩;have HTN:=kz htn;rw [← htn] at HSN;clear htn;have hte:zay T ((jU T (pre.map (spX s))).1,(jU T (pre.map (spX s))).2) ((rn s x:Int),j6 s x)=tn:=(oz HSN).symm;rw [hte] at HW;clear hte;generalize jU T (pre.map (spX s))=tt at *
  gi_wp2_with fail
  refine ⟨trivial,fun _ =>by omega, ?_⟩;refine (CallsIn.inRound _ (callsIn_wide.2 (oz HW))).mono ?_;rintro e w3 ⟨v',rfl,ho,hb,hnv⟩;have HNV:Hz (v'.ownBlock≠some (Bt+1)):=kz (fun e =>by
   rcases hnv _ e with h | h
   ·exact hnb h
   ·have:=(oz HH).2.2.1.lt;omega)
  clear hnv;obtain ⟨a',c',rfl⟩:=zL ho;obtain ⟨hT,hB,hS,hl2⟩:=oz HH;have hT3:=hT.below hb hT.lt;have hB3:=hB.below hb hB.lt;have hS3:=hS.below hb hS.lt;have hl3:=hl2.trans (hb.mono hl2.size);have c0:=hT3.cell 0;have c1:=hT3.cell 1;have cf:=hT3.frozen;have hsz:=hb.size;have HE:=kz (yB hT3 (yB hB3 (yB hS3 (yB hl3 (yB ho (Zy hb))))));have HSS:=kz hS;clear hT hB hS hl2 hT3 hB3 hS3 hl3 ho hb HW HH t0 t1 tf x0 x1 x2 b0
  gi_wp2
  obtain ⟨hT3,hB3,hS3,hl3,ho,hko⟩:=oz HE;have hkk:=(hko.trans (KeepsOthers.setCell w3 ⟨Bt,0,none⟩ (.slice a' tn.1.length c'))).trans (KeepsOthers.setCell _ ⟨Bt,1,none⟩ (.bool tn.2));have hT4:=(hT3.set 0 (.slice a' tn.1.length c')).set 1 (.bool tn.2);have hS4:=(hS3.other (B':=Bt) (i:=0) (by omega) (.slice a' tn.1.length c')).other (B':=Bt) (i:=1) (by omega) (.bool tn.2);refine ⟨hkk.from _,⟨(hS4.cell 0).trans ((oz HSS).cell 0).symm,hkk.walks⟩,⟨.slice a' tn.1.length c', ?_, ?_,(hB3.other (by omega) _).other (by omega) _,hS4,(hl3.setCell (p:=⟨Bt,0,none⟩) (by simp;omega) _).setCell (p:=⟨Bt,1,none⟩) (by simp;omega) _, ?_,oz HNV⟩⟩
  ·rw [← oz HTN];exact hT4
  ·rw [← oz HTN];exact Qi (Qi ho hT3 (by decide) 0 _) (hT3.set 0 _) (by decide) 1 _
  ·have:=hkk.size;omega
 case done =>
  rintro D ys W hD hys ⟨v,hT,hR,hB,hS,hl2,hlo,hnb⟩ hK;rw [hys,show (zh s).map (spX s)=spL s from rfl] at hT hR;have t0:=hT.cell 0;have HE:=kz (yB hR hl2);have HD:=kz hK;have hwD:w.heap.size≤D:=by omega
  clear hys hT hR hB hS hl2 hK
  gi_wp2
  refine ⟨by simp,.inl ⟨_,_,rfl,run_takeDeferred (oz HD), ?_⟩⟩;obtain ⟨hR,hl2⟩:=oz HE;have hR2:=yH (ownsRow_putObj hR (.deferred Option.none) (oz HD) rfl) (show w.heap.size≤W1.heap.size by omega);exact ⟨_,results_tmp rfl _ _ _,v,rfl,hR2,hl2.trans (belowK_b (w:=w) zD _ D _ _ hwD (oz HD) rfl rfl)⟩
 case stop =>
  rintro D c pre W hD hpre h;exact h.elim
theorem zan (T:TV) (hO:zx T) (s:ByteArray) (hs:s.size≤1000000000000) (B:Nat) (w:World) (hbk:BookAt w B T):Calls Tryz.prog 12 #[.pointer (some ⟨B,0,none⟩),.string s] w fun e w' => ∃ v,e=.returned v∧w'.ownsRow w.heap.size 3 1 v (ZT T s).length ((ZT T s).map qA)∧Below w.heap.size w w' :=
 callsIn_wide.1 (zi8 4 zD T hO s hs B w hbk)
end
section
open Go.RowKit Go.Shelf Go.Maps
set_option maxRecDepth 100000
set_option maxHeartbeats 8000000
theorem zbN (s:ByteArray) (hs:s.size≤1000000000) (w:World):Calls Tryz.prog 43 #[.string s] w fun e w' =>e=.returned (.bool (zeE s (zh s)))∧Below w.heap.size w w':=by
 obtain ⟨vv,hvv⟩:∃ vv,zeE s (zh s)=vv:=⟨_,rfl⟩;have HV:=kz hvv;rw [hvv];clear hvv;go_enter Tryz.func43,Tryz.ntmps43;go_wp2_with fail
 have HB0:=kz ((Below.refl w.heap.size w).alloc zD (.stringIter s 0));have hI0:(w.iter s 0).heap[w.heap.size]?=some (.stringIter s 0):=World.alloc_heap_new w _;have HI0:=kz hI0;clear hI0;go_loopw [4] (fun _ wr => ∃ (pre:List Nat) (pos f:Nat),pos≤s.size∧s.size≤pos+f∧Hz (zh s=pre++zo s f pos)∧Hz (pre.all (fun x =>decide ((rn s x:Int) < 128))=true)∧Hz (wr.heap[w.heap.size]?=some (.stringIter s pos))∧Hz (Below w.heap.size w wr)) (fun _ wr =>s.size+1 - wr.iterPos w.heap.size)
 case atStart =>exact ⟨[],0,s.size,by omega,by omega,kz rfl,kz rfl,HI0,HB0⟩
 case round =>
  obtain ⟨pre,pos,f,hpt,hpf,HS,HA,HI,HB⟩:=hrel;by_cases hp:pos < s.size
  ·obtain ⟨q,rfl⟩:∃ q,f=q+1:=⟨f - 1,by omega⟩;have hst:=oz HS;rw [zW s q pos hp] at hst;have HST:=kz hst;have hnx:∀ ty,(Instr.next (.pointer (some ⟨w.heap.size,0,none⟩)) true ty).run Tryz.prog wr=_:=fun ty =>Lib.run_next_any_at wr w.heap.size s pos ty (oz HI) hp
   have hwd:=Jl s pos;have hwr:=Jk s pos hp;have i0:(wr.iterAt w.heap.size s (pos+(Utf8.decode s pos).2)).heap[w.heap.size]?=some (.stringIter s (pos+(Utf8.decode s pos).2)):=Lib.iterAt_heap wr w.heap.size s pos _ (oz HI);have g0:Below w.heap.size w (wr.iterAt w.heap.size s (pos+(Utf8.decode s pos).2)):=(oz HB).grown (J2 wr w.heap.size s _) (oz HB).size (fun k hk =>by cases hk;exact zD);clear hst;simp only [wd] at hwd hwr;have HWD:=kz (show wd s pos=(Utf8.decode s pos).2 from rfl);have HRN:=kz (show rn s pos=(Utf8.decode s pos).1 from rfl);obtain ⟨d,hd⟩:∃ d,d=pos+(Utf8.decode s pos).2:=⟨_,rfl⟩;obtain ⟨x,hx⟩:∃ x,x=(Utf8.decode s pos).1:=⟨_,rfl⟩;rw [← hd] at hnx i0 g0 hwr;rw [← hx] at hnx HRN;have HD:=kz (show d=pos+wd s pos from hd);have hpb:(pos:Int)≤1000000000:=by omega
   have HI2:=kz i0;have HB2:=kz g0;have HIP:=kz (yB (XY (oz HI)) (yB (XY i0) (show pos < d by omega)));clear i0 g0;by_cases h10:(128:Int)≤(x:Int)
   ·have HF:Hz (vv=false):=kz (by
     rw [← oz HV];unfold zeE;rw [List.all_eq_false];exact ⟨pos,by rw [oz HST];simp,by rw [oz HRN];simp;omega⟩)
    clear hd hx HI hwd hwr HS HST HA HD HWD HRN HV;go_wp2_with fail
    go_ret;exact ⟨by rw [oz HF];rfl,oz HB2⟩
   ·have HA2:Hz ((pre++[pos]).all (fun x =>decide ((rn s x:Int) < 128))=true):=kz (by
     rw [List.all_append,oz HA,Bool.true_and];show (decide ((rn s pos:Int) < 128) && true)=true;rw [oz HRN,Bool.and_true];exact JS (by omega))
    have HS2:Hz (zh s=(pre++[pos])++zo s q d):=kz (by rw [oz HST,oz HD];simp);have hdr:d≤s.size:=hwr;have hdq:s.size≤d+q:=by have:=(oz HIP).2.2;omega
    clear hd hx HI hwd hwr HS HST HA HD HWD HRN;go_wp2_with fail
    go_roundw
    case rel =>exact ⟨_,d,q,hdr,hdq,HS2,HA2,HI2,HB2⟩
    case measure =>rw [(oz HIP).2.1,(oz HIP).1];have:=(oz HIP).2.2;omega
  ·have hnx:∀ ty,(Instr.next (.pointer (some ⟨w.heap.size,0,none⟩)) true ty).run Tryz.prog wr=_:=fun ty =>Lib.run_next_end_at wr w.heap.size s pos ty (oz HI) hp
   have HF:Hz (vv=true):=kz (by
    have hst:=oz HS;rw [jB s f pos hp,List.append_nil] at hst;rw [← oz HV];unfold zeE;rw [hst];exact oz HA)
   clear HS HA HI HV;go_wp2_with fail
   go_ret;exact ⟨by rw [oz HF];rfl,oz HB⟩
end
section
open Go.RowKit Go.Shelf Go.Maps
attribute [local go_sem] Oper.semAt_some
set_option maxRecDepth 100000
set_option maxHeartbeats 8000000
def okX (T:TV) (s:ByteArray) (i:Nat):Bool:=yP T (spX s i) || !(bdX T (spX s i)).isEmpty
theorem ze1 (T:TV) (s:ByteArray) (zs:List Nat):zc5 T s zs=zs.all (okX T s):=rfl
structure AoI (w:World) (T:TV) (B:Nat) (s:ByteArray) (pre:List Nat) (W:World):Prop where
 no:∀ i ∈ pre,okX T s i=true
 b:Blk W w.heap.size #[.pointer (some ⟨B,0,none⟩)] 22
 o:Blk W (w.heap.size+1) #[.bool false] 4
 t:Below w.heap.size w W
theorem AoI.below {w:World} {T:TV} {B A:Nat} {s:ByteArray} {pre:List Nat} {X Y:World} (h:AoI w T B s pre X) (hb:Below A X Y) (hA:w.heap.size+2≤A):AoI w T B s pre Y :=
 ⟨h.no,h.b.below hb (by omega),h.o.below hb (by omega),h.t.trans (hb.mono (by omega))⟩
structure AoX (w:World) (T:TV) (s:ByteArray) (c:Code) (pre:List Nat) (W:World):Prop where
 c:c=.ret
 f:∃ x ∈ pre,okX T s x=false
 o:Blk W (w.heap.size+1) #[.bool false] 4
 t:Below w.heap.size w W
theorem AoX.below {w:World} {T:TV} {A:Nat} {s:ByteArray} {c:Code} {pre:List Nat} {X Y:World} (h:AoX w T s c pre X) (hb:Below A X Y) (hA:w.heap.size+2≤A):AoX w T s c pre Y :=
 ⟨h.c,h.f,h.o.below hb (by omega),h.t.trans (hb.mono (by omega))⟩
theorem AoI.hit {w:World} {T:TV} {B:Nat} {s:ByteArray} {pre:List Nat} {X:World} {x:Nat} (h:AoI w T B s pre X) (hx:okX T s x=false):AoX w T s .ret (pre++[x]) (X.setCell ⟨w.heap.size+1,0,none⟩ (.bool false)) :=
 ⟨rfl,⟨x,by simp,hx⟩,h.o.set 0 _,h.t.setCell (p:=⟨w.heap.size+1,0,none⟩) (by simp) _⟩
theorem AoI.step {w:World} {T:TV} {B:Nat} {s:ByteArray} {pre:List Nat} {X:World} {x:Nat} (h:AoI w T B s pre X) (hx:okX T s x=true):AoI w T B s (pre++[x]) X:=by
 refine ⟨fun i hi =>?_,h.b,h.o,h.t⟩;rcases List.mem_append.1 hi with h1 | h1
 ·exact h.no i h1
 ·rw [List.mem_singleton.1 h1];exact hx
theorem zbM (n:Nat) (hn:4≤n) (T:TV) (hO:zx T) (s:ByteArray) (hs:s.size≤1000000000000) (B:Nat) (w:World) (hbk:BookAt w B T) :
  CallsIn Fence.wide n Tryz.prog 44 #[.pointer (some ⟨B,0,none⟩),.string s] w fun e w' =>e=.returned (.bool (zc5 T s (zh s)))∧Below w.heap.size w w':=by
 have h1:1≤n:=by omega
 have hsm:s.size≤maxLen:=by unfold maxLen;omega
 have hsl:(zh s).length≤s.size:=zX s;refine callsIn_of_wp_marks Tryz.func44 rfl trivial ?_ rfl;simp only [Tryz.ntmps44,List.size_toArray,List.length_cons,List.length_nil,Nat.reduceAdd,Nat.reduceSub,Array.replicate_succ,Array.replicate_zero,List.push_toArray,List.append_toArray,List.nil_append,List.cons_append]
 gi_wp2_with (refine ⟨trivial, ?_⟩;gi_at_call 41;refine (callsIn_wide.2 (Z9 _ _)).mono ?_;rintro e w' ⟨rfl,rfl⟩)
 have hDR:=kz (fun (x:Nat) (w1:World) (h:Below w.heap.size w w1) =>Ke hO B (rn s x) (wd s x) (j6 s x) (zeL s x) w1 (hbk.below h));obtain ⟨W0,hW0⟩:∃ W0,W0=((w.alloc (.cells #[.pointer (some ⟨B,0,none⟩)] 22)).alloc (.cells #[.bool false] 4)).alloc (.cells #[.string s] 9):=⟨_,rfl⟩;have hI:AoI w T B s [] W0:=by
  rw [hW0];have b0:=(Blk.new w #[.pointer (some ⟨B,0,none⟩)] 22).alloc (.cells #[.bool false] 4);have b2:=Blk.new (w.alloc (.cells #[.pointer (some ⟨B,0,none⟩)] 22)) #[.bool false] 4;simp only [World.size_alloc] at b2;exact ⟨(fun i hi =>by cases hi),b0.alloc _,b2.alloc _,((((Below.refl w.heap.size w).alloc zD _).alloc (by simp) _).alloc (by simp;omega) _)⟩
 have hS:W0.cell? ⟨w.heap.size+1+1,0,none⟩=some (.string s):=by
  have b4:=Blk.new ((w.alloc (.cells #[.pointer (some ⟨B,0,none⟩)] 22)).alloc (.cells #[.bool false] 4)) #[.string s] 9;simp only [World.size_alloc] at b4;rw [hW0];exact b4.cell 0
 have hsz:W0.heap.size=w.heap.size+3:=by rw [hW0];simp
 rw [← hW0];clear hW0 hbk;have hge0:w.heap.size+3≤W0.heap.size:=by omega
 clear hsz
 refine zd3 rfl h1 (gf:=69) (lb:=#[.pointer (some ⟨w.heap.size+1+1,0,none⟩)]) rfl trivial (enters_of Tryz.func69 (by kernel_rfl) rfl)
  (zdN (n - 1) (w.heap.size+1+1) (by omega) s hsm W0 hS) zkI (fun W l o hl =>zkJ W l o (by omega)) zl (fun _ =>rfl)
  (AoI w T B s) (AoX w T s) (fun p X Y h hb =>h.below hb (by omega)) (fun c p X Y h hb =>h.below hb (by omega)) hI ?round ?done ?stop
 case round =>
  rintro pre x W hIW hpx hge;have hal:=(Below.refl W.heap.size W).alloc zD (.cells (Zf (ZQ s x)) 110);have hX:=Blk.new W (Zf (ZQ s x)) 110;dsimp only [za0]
  gi_wp2
  refine ⟨Above.below hal,hal.block _ (by omega),hIW.below hal (by omega), ?_⟩;intro Wr hgr hsr hIr;have hXr:=hX.kept hgr (by simp;omega);obtain ⟨PX,hPX⟩:∃ PX,PX=W.heap.size:=⟨_,rfl⟩;rw [← hPX] at hXr;rw [← hPX];have hsr2:Wr.heap.size=PX+1:=by rw [hsr,hPX];simp
  have hge2:W0.heap.size+2≤PX:=by omega
  clear hPX hsr hgr hX hal hge hIW;have x0:Wr.cell? ⟨PX,0,none⟩=some (.int .i32 (rn s x)):=hXr.cell 0;have x1:Wr.cell? ⟨PX,1,none⟩=some (.int .i64 (wd s x)):=hXr.cell 1;have x2:Wr.cell? ⟨PX,2,none⟩=some (.bool (j6 s x)):=hXr.cell 2;have c0:=hIr.b.cell 0;have HI:=kz hIr;have HDD:=kz (oz hDR x Wr hIr.t);have HOK:Hz (okX T s x=(yP T (((rn s x:Nat):Int),j6 s x) || !(bdX T (((rn s x:Nat):Int),j6 s x)).isEmpty)):=kz rfl;generalize yP T (((rn s x:Nat):Int),j6 s x)=fb at *;generalize bdX T (((rn s x:Nat):Int),j6 s x)=bl at *;clear hIr hXr
  gi_wp2_with fail
  refine ⟨trivial,fun _ =>by omega, ?_⟩;refine (CallsIn.inRound _ (callsIn_wide.2 (oz HDD))).mono ?_;rintro e W3 ⟨v,rfl,ho,hb3⟩;obtain ⟨a3,c3,rfl⟩:=zL ho;have hI3:=(oz HI).below hb3 (by omega);have hA3:=kz (Above.below (B:=W0.heap.size) hb3);have hK3:=kz (hb3.block (w.heap.size+1+1) (by omega));have o0:=hI3.o.cell 0;have pf:=hI3.o.frozen;have HI3:=kz hI3;clear hI3 hb3 HDD x0 x1 x2 c0 ho HI;cases fb with
  | true =>
   have HX:=kz ((oz HI3).step (x:=x) (by rw [oz HOK];rfl))
   gi_wp2
   exact ⟨oz hA3,oz hK3,oz HX⟩
  | false =>
   cases bl with
   | nil =>
    have HX:=kz ((oz HI3).hit (x:=x) (by rw [oz HOK];rfl))
    gi_wp2
    exact ⟨(oz hA3).set (by omega) _,oz HX⟩
   | cons y l =>
    have HX:=kz ((oz HI3).step (x:=x) (by rw [oz HOK];rfl));have e1:((l.length:Int)+1 == 0)=false:=by rw [beq_eq_false_iff_ne];omega
    gi_wp2
    exact ⟨oz hA3,oz hK3,oz HX⟩
 case done =>
  rintro D ys W hD hys hIW hK;have HV:=kz (show zc5 T s (zh s)=true by rw [ze1,List.all_eq_true, ← hys];exact hIW.no);have k3:=hIW.o;have hB:=hIW.t;have c3:=k3.cell 0;have f3:=k3.frozen;clear hys hIW hI hS
  gi_wp2
  have hK':=(KeepsOthers.setCell W ⟨w.heap.size+1,0,none⟩ (.bool true)).same D _ hK rfl;have k3':=k3.set 0 (.bool true);have hB':=hB.setCell (p:=⟨w.heap.size+1,0,none⟩) (by simp) (.bool true);clear hK k3 hB c3 f3;refine ⟨by simp,.inl ⟨_,_,rfl,run_takeDeferred hK', ?_⟩⟩;have q3:=k3'.put (.deferred Option.none) hK' rfl;have c3:=q3.cell 0;refine ⟨.bool true, ?_,by rw [oz HV],hB'.trans (belowK_b (w:=w) zD _ D _ _ (by omega) hK' rfl rfl)⟩;simp [results,Tryz.f44,go_sem,c3]
 case stop =>
  rintro D c pre W hD hpre hX hK;obtain ⟨rfl,⟨x,hx,hf⟩,k3,hB⟩:=hX;obtain ⟨r,hr⟩:=hpre;have HV:=kz (show zc5 T s (zh s)=false by
   rw [ze1,List.all_eq_false];exact ⟨x,by rw [← hr];exact List.mem_append_left _ hx,by simp [hf]⟩)
  clear hr hx hf hI hS
  gi_wp2
  refine ⟨by simp,.inl ⟨_,_,rfl,run_takeDeferred hK, ?_⟩⟩;have q3:=k3.put (.deferred Option.none) hK rfl;have c3:=q3.cell 0;refine ⟨.bool false, ?_,by rw [oz HV],hB.trans (belowK_b (w:=w) zD _ D _ _ (by omega) hK rfl rfl)⟩;simp [results,Tryz.f44,go_sem,c3]
theorem zaW (T:TV) (hO:zx T) (s:ByteArray) (hs:s.size≤1000000000000) (B:Nat) (w:World) (hbk:BookAt w B T):Calls Tryz.prog 44 #[.pointer (some ⟨B,0,none⟩),.string s] w fun e w' =>e=.returned (.bool (zc5 T s (zh s)))∧Below w.heap.size w w' :=
 callsIn_wide.1 (zbM 4 zD T hO s hs B w hbk)
attribute [local go_sem] Oper.semAt_some
set_option maxRecDepth 100000
set_option maxHeartbeats 8000000
theorem zfy {T:TV} {s:ByteArray} {q r:List Nat} {x:Nat} (he:zh s=q++[x]++r) (h0:YM (jU T (q.map (spX s)))=false) (h1:YM (jU T ((q++[x]).map (spX s)))=true):Yx T s=some (x,q.length):=by
 have hs:spL s=q.map (spX s)++[spX s x]++r.map (spX s):=by unfold spL;rw [he];simp
 have hq:(spL s).take q.length=q.map (spX s):=by
  rw [hs,List.append_assoc,List.take_append_of_le_length (by simp),List.take_of_length_le (by simp)]
 have hq1:(spL s).take (q.length+1)=(q++[x]).map (spX s):=by
  rw [hs,List.take_append_of_le_length (by simp),List.take_of_length_le (by simp),List.map_append,List.map_singleton]
 refine zc1 ?_ (by rw [hq1];exact h1) (fun j hj =>?_)
 ·rw [he,List.append_assoc,List.getElem?_append_right zD,Nat.sub_self];rfl
 ·cases hm:YM (jU T ((spL s).take (j+1))) with
  | false =>rfl
  | true =>
   have:YM (jU T ((spL s).take q.length))=true:=zfb (fun y hy =>(List.take_subset_take_left (spL s) (show j+1≤q.length by omega)) hy) hm;rw [hq,h0] at this;cases this
def SpI (w:World) (Bt lo B:Nat) (T:TV) (s:ByteArray) (pre:List Nat) (W:World):Prop :=
 TiI w w.heap.size Bt (Bt+2) lo B T s pre W∧Hz (YM (jU T (pre.map (spX s)))=false)∧Blk W (w.heap.size+1) #[.int .i64 0,.int .i64 0] 47∧Blk W (w.heap.size+2) #[.bool false] 4∧Blk W (Bt+1) #[.int .i64 pre.length] 3
theorem QE {X Y:World} {row:Option Nat} {A Bq:Nat} {cs:Array Value} {t:TypeId} (hg:X.grownBy Y row) (hrow:∀ j,row=some j→A≤j∧∃ o,X.heap[j]?=some o∧o.isCells=false) (h:Blk X Bq cs t):Blk Y Bq cs t:=h.kept hg (fun e' =>by
 obtain ⟨_,o,ho,hc⟩:=hrow Bq e'.symm;rw [show X.heap[Bq]?=_ from h] at ho;cases ho;cases hc)
theorem SpI.own {w:World} {Bt lo B A:Nat} {T:TV} {s:ByteArray} (h1:w.heap.size≤A):OwnFrom A (SpI w Bt lo B T s):=by
 rintro p X Y row ⟨h,hm,h2,h3,h4⟩ hg hrow;exact ⟨TiI.own h1 p X Y row h hg hrow,hm,QE hg hrow h2,QE hg hrow h3,QE hg hrow h4⟩
def SpX (w:World) (T:TV) (s:ByteArray) (c:Code) (pre:List Nat) (W:World):Prop :=
 c=.ret∧(∃ q x,pre=q++[x]∧Hz (YM (jU T (q.map (spX s)))=false)∧Hz (YM (jU T ((q++[x]).map (spX s)))=true)∧Blk W (w.heap.size+1) #[.int .i64 x,.int .i64 q.length] 47)∧Blk W (w.heap.size+2) #[.bool true] 4∧Below w.heap.size w W
theorem SpX.own {w:World} {A:Nat} {T:TV} {s:ByteArray} (c:Code) (h1:w.heap.size≤A):OwnFrom A (SpX w T s c):=by
 rintro p X Y row ⟨hc,⟨q,x,e,a,b,h2⟩,h3,hl⟩ hg hrow;exact ⟨hc,⟨q,x,e,a,b,QE hg hrow h2⟩,QE hg hrow h3,hl.grown hg hl.size (fun j e =>by have:=(hrow j e).1;omega)⟩
theorem zfz (n:Nat) (hn:4≤n) (T:TV) (hO:zx T) (s:ByteArray) (hs:s.size≤1000000000000) (B:Nat) (w:World) (hbk:BookAt w B T) :
  CallsIn Fence.wide n Tryz.prog 22 #[.pointer (some ⟨B,0,none⟩),.string s] w fun e w' =>e=.returned (JC (Yx T s))∧Below w.heap.size w w':=by
 have h1:1≤n:=by omega
 have hsm:s.size≤maxLen:=by unfold maxLen;omega
 have hsl:(zh s).length≤s.size:=zX s;have hL:=hO.l0;refine callsIn_of_wp_marks Tryz.func22 rfl trivial ?_ rfl;simp only [Tryz.ntmps22,List.size_toArray,List.length_cons,List.length_nil,Nat.reduceAdd,Nat.reduceSub,Array.replicate_succ,Array.replicate_zero,List.push_toArray,List.append_toArray,List.nil_append,List.cons_append];have hb1:=(((Below.refl w.heap.size w).alloc zD (.cells #[.pointer (some ⟨B,0,none⟩)] 22)).alloc (by simp) (.cells #[.int .i64 0,.int .i64 0] 47)).alloc (by simp;omega) (.cells #[.bool false] 4);have hk1:=((Blk.new w #[.pointer (some ⟨B,0,none⟩)] 22).alloc (.cells #[.int .i64 0,.int .i64 0] 47)).alloc (.cells #[.bool false] 4);have hk2:=(Blk.new (w.alloc (.cells #[.pointer (some ⟨B,0,none⟩)] 22)) #[.int .i64 0,.int .i64 0] 47).alloc (.cells #[.bool false] 4);have hk3:=Blk.new ((w.alloc (.cells #[.pointer (some ⟨B,0,none⟩)] 22)).alloc (.cells #[.int .i64 0,.int .i64 0] 47)) #[.bool false] 4;have hz1:(((w.alloc (.cells #[.pointer (some ⟨B,0,none⟩)] 22)).alloc (.cells #[.int .i64 0,.int .i64 0] 47)).alloc (.cells #[.bool false] 4)).heap.size=w.heap.size+3:=by simp
 simp only [World.size_alloc] at hk2 hk3;have HU:=kz (KH hO B _ (hbk.below hb1));have HB1:=kz hb1;have HK1:=kz (yB hk1 (yB hk2 hk3));clear hb1 hk1 hk2 hk3
 gi_wp2_with fail
 generalize ((w.alloc _).alloc _).alloc _=W1 at *;refine ⟨trivial, ?_⟩;refine (callsIn_wide.2 (oz HU)).mono ?_;rintro e w1 ⟨v0,rfl,ho0,hb⟩;have ho:=ho0;rw [List.length_range] at ho0;obtain ⟨a0,c0,rfl⟩:=zL ho0;clear ho0;have hs1:=hb.size;have hB1:=(oz HB1).trans (hb.mono (oz HB1).size);have hK1:=(oz HK1).1.below hb (oz HK1).1.lt;have hK2:=(oz HK1).2.1.below hb (oz HK1).2.1.lt;have hK3:=(oz HK1).2.2.below hb (oz HK1).2.2.lt;have hTI:SpI w w1.heap.size W1.heap.size B T s [] (((w1.alloc (.cells #[.slice a0 T.sc.length c0,.bool false] 104)).alloc (.cells #[.int .i64 0] 3)).alloc (.cells #[.string s] 9)):=by
  have t1:=((Blk.new w1 #[.slice a0 T.sc.length c0,.bool false] 104).alloc (.cells #[.int .i64 0] 3)).alloc (.cells #[.string s] 9);have t2:=(Blk.new (w1.alloc (.cells #[.slice a0 T.sc.length c0,.bool false] 104)) #[.int .i64 0] 3).alloc (.cells #[.string s] 9);have t3:=Blk.new ((w1.alloc (.cells #[.slice a0 T.sc.length c0,.bool false] 104)).alloc (.cells #[.int .i64 0] 3)) #[.string s] 9;simp only [World.size_alloc] at t2 t3;exact ⟨⟨.slice a0 T.sc.length c0,t1,((ho.alloc _).alloc _).alloc _,((hK1.alloc _).alloc _).alloc _,t3,((hB1.alloc hB1.size _).alloc (by have:=hB1.size;simp;omega) _).alloc (by have:=hB1.size;simp;omega) _,by simp;omega,fun e =>by have:=(ho.lt _ e).2;omega⟩,kz rfl,((hK2.alloc _).alloc _).alloc _,((hK3.alloc _).alloc _).alloc _,t2⟩
 have hz0:(((w1.alloc (.cells #[.slice a0 T.sc.length c0,.bool false] 104)).alloc (.cells #[.int .i64 0] 3)).alloc (.cells #[.string s] 9)).heap.size=w1.heap.size+3:=by simp
 have HTI:=kz hTI;have HBK:=kz (fun W (h:Below w.heap.size w W) =>hbk.below h);have HO:=kz hO;clear HU HB1 HK1 ho hb hB1 hK1 hK2 hK3 hTI hbk hO
 gi_wp2_with (refine ⟨trivial, ?_⟩;gi_at_call 41;refine (callsIn_wide.2 (Z9 _ _)).mono ?_;rintro e w' ⟨rfl,rfl⟩)
 generalize ((w1.alloc _).alloc _).alloc _=W0 at *;obtain ⟨Bt,hBt⟩:∃ Bt,Bt=w1.heap.size:=⟨_,rfl⟩;rw [← hBt] at HTI hz0 ⊢;have hge:w.heap.size+3≤Bt:=by omega
 have hW1:=hz1;clear hBt hs1
 refine wpIn_rangeFunc_ownH rfl h1 (gf:=69) (lb:=#[.pointer (some ⟨Bt+1+1,0,none⟩)]) rfl trivial (enters_of Tryz.func69 (by kernel_rfl) rfl)
  (ZU (n - 1) (Bt+1+1) (by omega) s hsm W0 ((oz HTI).1.choose_spec.2.2.2.1.cell 0)) ziK (ziL (by omega)) zl (fun _ =>rfl)
  (SpI w Bt W1.heap.size B T s) (SpX w T s) (SpI.own (by omega)) (fun c =>SpX.own c (by omega)) (oz HTI)
  (fun x a' W => ∃ Bx,Blk W Bx (Zf (ZQ s x)) 110∧a' = { tmps:=#[.pointer (some ⟨B,0,none⟩),.string s,.pointer (some ⟨w.heap.size,0,none⟩),undef,.pointer (some ⟨w.heap.size+1,0,none⟩),.pointer (some ⟨w.heap.size+1+1,0,none⟩),.pointer (some ⟨Bt,0,none⟩),.pointer (some ⟨Bt+1,0,none⟩),.int .i64 x,.pointer (some ⟨Bx,0,none⟩),.pointer (some ⟨B,0,none⟩),.bool false,undef,.pointer (some ⟨B,0,none⟩),.agg #[.slice a0 T.sc.length c0,.bool false],.string s,.func (.func 69) #[] #[.pointer (some ⟨Bt+1+1,0,none⟩)],.int .i64 x,Y9 (ZQ s x),undef,undef,undef,undef,undef,undef,undef,undef,undef,undef,undef,undef],defers := [] })
  (fun x a' =>Own.from (fun u A B row hs hg hr =>by
   obtain ⟨Bx,h2,h3⟩:=hs;exact ⟨Bx,Blk.own _ (fun _ =>_) _ () A B row h2 hg hr,h3⟩) _)
  ?assign ?body ?done ?stop
 case assign =>
  rintro l pre x W K ⟨hI,hm,hk2,hk3,hk4⟩ hK
  gi_wp2
  refine hK _ _ ((KeepsOthers.alloc _ _).from _) ⟨?_,KeepsWalks.alloc _ _⟩ ⟨hI.alloc _,hm,hk2.alloc _,hk3.alloc _,hk4.alloc _⟩ ⟨W.heap.size,Blk.new W _ 110,rfl⟩;obtain ⟨v,_,_,_,hS,_,_⟩:=hI;exact ((hS.alloc _).cell 0).trans (hS.cell 0).symm
 case body =>
  rintro l pre x a' W hl ⟨r,hr⟩ ⟨⟨v,hT,hR,hB,hS,hl2,hlo,hnb⟩,hm,hk2,hk3,hk4⟩ ⟨Bx,bX,rfl⟩ hlt;have t0:=hT.cell 0;have t1:=hT.cell 1;have tf:=hT.frozen;have x0:=bX.cell 0;have x1:=bX.cell 1;have x2:=bX.cell 2;have b0:=hB.cell 0;have hpl:pre.length < s.size:=by omega
  have hlen:=Z1 T (pre.map (spX s));have HSN:Hz (jU T ((pre++[x]).map (spX s))=zay T (jU T (pre.map (spX s))) (spX s x)):=kz (by rw [List.map_append,List.map_singleton,za5]);have HLN:=kz (Z1 T ((pre++[x]).map (spX s)));have HW:=kz (zcX (oz HO) B v (jU T (pre.map (spX s))).1 (jU T (pre.map (spX s))).2 (rn s x) (wd s x) (j6 s x) (zeL s x) (by omega) (fun n hn =>by have:=(zbT.1 hn).1;omega) _ W (oz HBK W hl2) hR hlo);have HH:=kz (yB hT (yB hB (yB hS (yB hl2 (yB hk2 (yB hk3 hk4))))));clear hT hR hB hS hl2 bX hk2 hk3 hk4 hr;obtain ⟨tn,htn⟩:∃ tn,tn=jU T ((pre++[x]).map (spX s)):=⟨_,rfl⟩;have HTN:=kz htn;rw [← htn] at HSN HLN;clear htn;have hte:zay T ((jU T (pre.map (spX s))).1,(jU T (pre.map (spX s))).2) ((rn s x:Int),j6 s x)=tn:=(oz HSN).symm;rw [hte] at HW;clear hte;have HMQ:=kz (show ∃ l0,l0=pre.map (spX s)∧YM (jU T l0)=false from ⟨_,rfl,oz hm⟩);clear hm;generalize jU T (pre.map (spX s))=tt at *
  gi_wp2_with fail
  refine ⟨trivial,fun _ =>by omega, ?_⟩;refine (CallsIn.inRound _ (callsIn_wide.2 (oz HW))).mono ?_;rintro e w3 ⟨v',rfl,ho,hb,hnv⟩;have HNV:Hz (v'.ownBlock≠some (Bt+1)):=kz (fun e =>by
   rcases hnv _ e with h | h
   ·exact hnb h
   ·have:=(oz HH).2.2.1.lt;omega)
  clear hnv;obtain ⟨a',c',rfl⟩:=zL ho;obtain ⟨hT,hB,hS,hl2,hk2,hk3,hk4⟩:=oz HH;have hT3:=hT.below hb hT.lt;have hB3:=hB.below hb hB.lt;have hS3:=hS.below hb hS.lt;have hl3:=hl2.trans (hb.mono hl2.size);have hp3:=hk2.below hb hk2.lt;have hq3:=hk3.below hb hk3.lt;have hn3:=hk4.below hb hk4.lt;have c0:=hT3.cell 0;have c1:=hT3.cell 1;have cf:=hT3.frozen;have hsz:=hb.size;have hkk:=((Zy hb).trans (KeepsOthers.setCell w3 ⟨Bt,0,none⟩ (.slice a' tn.1.length c'))).trans (KeepsOthers.setCell _ ⟨Bt,1,none⟩ (.bool tn.2));have hT4:=(hT3.set 0 (.slice a' tn.1.length c')).set 1 (.bool tn.2);have hS4:=(hS3.other (B':=Bt) (i:=0) (by omega) (.slice a' tn.1.length c')).other (B':=Bt) (i:=1) (by omega) (.bool tn.2);have hB4:=(hB3.other (B':=Bt) (i:=0) (by omega) (.slice a' tn.1.length c')).other (B':=Bt) (i:=1) (by omega) (.bool tn.2);have hp4:=(hp3.other (B':=Bt) (i:=0) (by omega) (.slice a' tn.1.length c')).other (B':=Bt) (i:=1) (by omega) (.bool tn.2);have hq4:=(hq3.other (B':=Bt) (i:=0) (by omega) (.slice a' tn.1.length c')).other (B':=Bt) (i:=1) (by omega) (.bool tn.2);have hn4:=(hn3.other (B':=Bt) (i:=0) (by omega) (.slice a' tn.1.length c')).other (B':=Bt) (i:=1) (by omega) (.bool tn.2);have hl4:=(hl3.setCell (p:=⟨Bt,0,none⟩) (by simp;omega) (.slice a' tn.1.length c')).setCell (p:=⟨Bt,1,none⟩) (by simp;omega) (.bool tn.2);have ho4:=Qi (Qi ho hT3 (by decide) 0 (.slice a' tn.1.length c')) (hT3.set 0 (.slice a' tn.1.length c')) (by decide) 1 (.bool tn.2);have hz4:=hkk.size;have HE:=kz (yB hT4 (yB hB4 (yB hS4 (yB hl4 (yB ho4 (yB hkk (yB hp4 (yB hq4 hn4))))))));have HSS:=kz hS;clear hT hB hS hl2 hT3 hB3 hS3 hl3 ho hb HW HH t0 t1 tf x0 x1 x2 b0 hk2 hk3 hk4 hp3 hq3 hn3 hT4 hS4 hB4 hp4 hq4 hn4 hl4 ho4 hkk
  gi_wp2_with fail
  refine ⟨trivial,fun _ =>by omega, ?_⟩;refine (CallsIn.inRound _ (callsIn_wide.2 (zfX (.slice a' tn.1.length c') tn.1 tn.2 _ W1.heap.size (oz HE).2.2.2.2.1 (by have:=oz HLN;omega)))).mono ?_;rintro e w5 ⟨rfl,hb5⟩;obtain ⟨hT4,hB4,hS4,hl4,ho4,hkk,hp4,hq4,hn4⟩:=oz HE;have hT5:=hT4.below hb5 hT4.lt;have hB5:=hB4.below hb5 hB4.lt;have hS5:=hS4.below hb5 hS4.lt;have hl5:=hl4.trans (hb5.mono hl4.size);have hp5:=hp4.below hb5 hp4.lt;have hq5:=hq4.below hb5 hq4.lt;have hn5:=hn4.below hb5 hn4.lt;have ho5:=zu ho4 hb5;have hk5:=hkk.trans (Zy hb5);have hz5:=hb5.size;have p0:=hp5.cell 0;have p1:=hp5.cell 1;have pf:=hp5.frozen;have q0:=hq5.cell 0;have qf:=hq5.frozen;have n0:=hn5.cell 0;have nf:=hn5.frozen;have HE5:=kz (yB hT5 (yB hB5 (yB hS5 (yB hl5 (yB ho5 (yB hk5 (yB hp5 (yB hq5 hn5))))))));have hge5:W1.heap.size≤w5.heap.size:=by omega
  clear hT4 hB4 hS4 hl4 ho4 hkk hp4 hq4 hn4 hT5 hB5 hS5 hl5 ho5 hk5 hp5 hq5 hn5 hb5 HE c0 c1 cf;have HMX:Hz (YM (jU T ((pre++[x]).map (spX s)))=YM (tn.1,tn.2)):=kz (by rw [← oz HTN]);generalize YM (tn.1,tn.2)=mm at *;cases mm with
  | true =>
   gi_wp2
   obtain ⟨hT5,hB5,hS5,hl5,ho5,hk5,hp5,hq5,hn5⟩:=oz HE5;refine ⟨(((hk5.trans (KeepsOthers.setCell _ _ _)).trans (KeepsOthers.setCell _ _ _)).trans (KeepsOthers.setCell _ _ _)).from _,rfl,⟨pre,x,rfl,kz (by obtain ⟨l0,e,h⟩:=oz HMQ;rw [← e];exact h),HMX,((hp5.set 0 _).set 1 _).other (by omega) _⟩,((hq5.other (by omega) _).other (by omega) _).set 0 _, ?_⟩;exact ((hl5.setCell (p:=⟨w.heap.size+1,0,none⟩) (by simp) _).setCell (p:=⟨w.heap.size+1,1,none⟩) (by simp) _).setCell (p:=⟨w.heap.size+1+1,0,none⟩) (by simp;omega) _
  | false =>
   gi_wp2
   obtain ⟨hT5,hB5,hS5,hl5,ho5,hk5,hp5,hq5,hn5⟩:=oz HE5;have hkf:=hk5.trans (KeepsOthers.setCell w5 ⟨Bt+1,0,none⟩ (.int .i64 ((pre.length:Int)+1)));have hS6:=hS5.other (B':=Bt+1) (i:=0) (by omega) (.int .i64 ((pre.length:Int)+1));refine ⟨hkf.from _,⟨(hS6.cell 0).trans ((oz HSS).cell 0).symm,hkf.walks⟩,⟨.slice a' tn.1.length c', ?_, ?_,hB5.other (by omega) _,hS6,hl5.setCell (p:=⟨Bt+1,0,none⟩) (by simp;omega) _, ?_,oz HNV⟩,HMX,hp5.other (by omega) _,hq5.other (by omega) _, ?_⟩
   ·rw [← oz HTN];exact hT5.other (by omega) _
   ·rw [← oz HTN];exact ho5.kept (zV w5 ⟨Bt+1,0,none⟩ _) (.inr (oz HNV))
   ·have:=hkf.size;omega
   ·rw [show (((pre++[x]).length:Nat):Int)=(pre.length:Int)+1 by simp];exact hn5.set 0 _
 case done =>
  rintro D ys W hD hys ⟨⟨v,hT,hR,hB,hS,hl2,hlo,hnb⟩,hm,hk2,hk3,hk4⟩ hK;have HV:=kz (zc2 (T:=T) (s:=s) (by rw [show spL s=ys.map (spX s) by rw [hys];rfl];exact oz hm));have k2:=hk2;have k3:=hk3;have hB:=hl2;have c0:=k2.cell 0;have c1:=k2.cell 1;have c3:=k3.cell 0;have f0:=k2.frozen;have f3:=k3.frozen;clear hys hT hR hS hl2 hk2 hk3 hk4 hm
  gi_wp2
  have hK':=(((KeepsOthers.setCell W ⟨w.heap.size+1,0,none⟩ (.int .i64 0)).trans (KeepsOthers.setCell _ ⟨w.heap.size+1,1,none⟩ (.int .i64 0))).trans (KeepsOthers.setCell _ ⟨w.heap.size+1+1,0,none⟩ (.bool false))).same D _ hK rfl;have k2':=Blk.other (i:=0) ((k2.set 0 (.int .i64 0)).set 1 (.int .i64 0)) (B':=w.heap.size+1+1) (by omega) (.bool false);have k3':=((k3.other (B':=w.heap.size+1) (i:=0) (by omega) (.int .i64 0)).other (B':=w.heap.size+1) (i:=1) (by omega) (.int .i64 0)).set 0 (.bool false);have hB':=((hB.setCell (p:=⟨w.heap.size+1,0,none⟩) (by simp) (.int .i64 0)).setCell (p:=⟨w.heap.size+1,1,none⟩) (by simp) (.int .i64 0)).setCell (p:=⟨w.heap.size+1+1,0,none⟩) (by simp;omega) (.bool false);clear hK k2 k3 hB c0 c1 c3 f0 f3;refine ⟨by simp,.inl ⟨_,_,rfl,run_takeDeferred hK', ?_⟩⟩;have q2:=k2'.put (.deferred Option.none) hK' rfl;have q3:=k3'.put (.deferred Option.none) hK' rfl;have c0:=q2.cell 0;have c1:=q2.cell 1;have c3:=q3.cell 0;refine ⟨.tuple #[.agg #[.int .i64 0,.int .i64 0],.bool false], ?_,by rw [oz HV];rfl,hB'.trans (belowK_b (w:=w) zD _ D _ _ (by omega) hK' rfl rfl)⟩;simp [results,Tryz.f22,go_sem,c0,c1,c3]
 case stop =>
  rintro D c pre W hD hpre hX hK;obtain ⟨rfl,⟨q,x,rfl,hq,hx,k2⟩,k3,hB⟩:=hX;obtain ⟨r,hr⟩:=hpre;have HV:=kz (zfy (T:=T) hr.symm (oz hq) (oz hx));clear hr hx hq
  gi_wp2
  refine ⟨by simp,.inl ⟨_,_,rfl,run_takeDeferred hK, ?_⟩⟩;have q2:=k2.put (.deferred Option.none) hK rfl;have q3:=k3.put (.deferred Option.none) hK rfl;have c0:=q2.cell 0;have c1:=q2.cell 1;have c3:=q3.cell 0;refine ⟨.tuple #[.agg #[.int .i64 x,.int .i64 q.length],.bool true], ?_,by rw [oz HV];rfl,hB.trans (belowK_b (w:=w) zD _ D _ _ (by omega) hK rfl rfl)⟩;simp [results,Tryz.f22,go_sem,c0,c1,c3]
theorem JJ (T:TV) (hO:zx T) (s:ByteArray) (hs:s.size≤1000000000000) (B:Nat) (w:World) (hbk:BookAt w B T):Calls Tryz.prog 22 #[.pointer (some ⟨B,0,none⟩),.string s] w fun e w' =>e=.returned (JC (Yx T s))∧Below w.heap.size w w' :=
 callsIn_wide.1 (zfz 4 zD T hO s hs B w hbk)
theorem zbs (T:TV) (hO:zx T) (s:ByteArray) (hs:s.size≤1000000000000) (k:Int) (B:Nat) (w:World) (hbk:BookAt w B T):Calls Tryz.prog 24 #[.pointer (some ⟨B,0,none⟩),.string s,.int .i64 k] w fun e w' =>e=.returned (.bool (inI (ZT T s) k))∧Below w.heap.size w w':=by
 have HC:=kz (zan T hO s hs B w hbk);have hL:=hO.l0;have hlen:=Z1 T (spL s);clear hbk hO;go_enter Tryz.func24,Tryz.ntmps24;go_wp2_with fail
 refine (oz HC).mono ?_;rintro e w1 ⟨v,rfl,ho,hb⟩;obtain ⟨a,c,rfl⟩:=zL ho;have HI:=kz (zbH a c (ZT T s) (by unfold ZT;omega) k w1 (yY ho));have HB:=kz hb;clear ho hb HC;go_wp2_with fail
 refine (oz HI).mono ?_;rintro e w2 ⟨rfl,rfl⟩;go_wp2_with fail
 go_ret;exact ⟨rfl,oz HB⟩
end
section
open Go.RowKit Go.Shelf Go.Maps
set_option maxRecDepth 100000
set_option maxHeartbeats 8000000
theorem zkg:Yx HT ⟨#[97,49,208,176]⟩=some (2,2):=by decide +kernel
theorem zkf:ZT HT ⟨#[97,98,49]⟩=[0]:=by decide +kernel
theorem zke:inI (ZT HT ⟨#[49]⟩) 2=true:=by decide +kernel
theorem zff (w:World):Calls Tryz.prog 10 #[] w fun e w' =>e=.returned (.bool true)∧Below w.heap.size w w':=by
 have hmx:=zdA
 go_enter Tryz.func10,Tryz.ntmps10;go_wp2_with fail
 refine (zga w).mono ?_;rintro e w1 ⟨v,rfl,hv,hb1⟩;have HB1:=kz hb1;have HC:=kz (zcv v w1 hv);clear hv hb1;go_wp2_with fail
 refine (oz HC).mono ?_;rintro e w2 ⟨B,rfl,hO,_,hbk,hb2⟩;have HB2:=kz ((oz HB1).trans (hb2.mono (oz HB1).size));have HBK:=kz (fun w3 (h:Below w2.heap.size w2 w3) =>hbk.below h);have G2:=kz (Below.refl w2.heap.size w2);clear hb2 hbk HC HB1;go_wp2_with fail
 have h:=JJ HT hO ⟨#[97,49,208,176]⟩ (by decide) B w2 (oz HBK w2 (oz G2));rw [zkg] at h;refine h.mono ?_;clear h;rintro e w3 ⟨rfl,hb⟩;rw [show JC (some (2,2))=.tuple #[.agg #[.int .i64 2,.int .i64 2],.bool true] from rfl];have P3:=kz (Blk.new w3 #[.int .i64 2,.int .i64 2] 47);have G3:=kz (((oz G2).trans (hb.mono (oz G2).size)).alloc (by have:=(oz G2).size;have:=hb.size;omega) (.cells #[.int .i64 2,.int .i64 2] 47));clear hb G2;have p0:=(oz P3).cell 0;have p1:=(oz P3).cell 1;go_wp2_with fail
 generalize w3.alloc _=X3 at *;have h:=zan HT hO ⟨#[97,98,49]⟩ (by decide) B X3 (oz HBK X3 (oz G3));rw [zkf] at h;refine h.mono ?_;clear h;rintro e w4 ⟨v4,rfl,ho,hb⟩;have ho1:w4.ownsRow X3.heap.size 3 1 v4 1 [qA 0]:=ho;clear ho;obtain ⟨a4,c4,rfl⟩:=zL ho1;have HSM:=kz (zfH a4 (some ⟨w4.heap.size,0,none⟩) c4 1 [0] (by decide) (w4.alloc (.cells #[.int .i64 0] 3)) (yY (ho1.alloc _)) (XD (Blk.new w4 #[.int .i64 0] 3) _ rfl));have G4:=kz (((oz G3).trans (hb.mono (oz G3).size)).alloc (by have:=(oz G3).size;have:=hb.size;omega) (.cells #[.int .i64 0] 3));clear hb G3 ho1 p0 p1 P3;dsimp only [List.length_cons,List.length_nil] at HSM;go_wp2_with fail
 generalize w4.alloc _=X4 at *;refine (oz HSM).mono ?_;rintro e w5 ⟨rfl,hb⟩;have G5:=kz ((oz G4).trans (hb.mono (oz G4).size));clear hb G4 HSM;go_wp2_with fail
 have h:=zbs HT hO ⟨#[49]⟩ (by decide) 2 B w5 (oz HBK w5 (oz G5));rw [zke] at h;refine h.mono ?_;clear h;rintro e w6 ⟨rfl,hb⟩;have G6:=kz ((oz G5).trans (hb.mono (oz G5).size));clear hb G5;go_wp2;go_ret;exact ⟨rfl,(oz HB2).trans ((oz G6).mono (oz HB2).size)⟩
theorem zek (o:Option (Nat × Nat)):∃ x y:Int,JC o=.tuple #[.agg #[.int .i64 x,.int .i64 y],.bool o.isSome]:=by
 cases o with
 | none =>exact ⟨0,0,rfl⟩
 | some x =>exact ⟨x.1,x.2,rfl⟩
theorem zdi (l:List Nat):(l.map (fun n:Nat =>(n:Int))).map (Value.int .i64)=l.map qA:=by rw [List.map_map];rfl
set_option maxRecDepth 100000
set_option maxHeartbeats 8000000
theorem zcz (T:TV) (hO:zx T) (s:ByteArray) (hs:s.size≤1000000000) (B:Nat) (w:World) (hbk:BookAt w B T):Calls Tryz.prog 13 #[.pointer (some ⟨B,0,none⟩),.string s] w fun e w' =>e=.returned (.int .i64 (zgF T s))∧Below w.heap.size w w':=by
 have HV0:=kz (show zgF T s=if zeE s (zh s) then 1 else if Q2 T s (zh s) then (if zc5 T s (zh s) then 3 else 4) else 2 from rfl);generalize zgF T s=lv at *;have HS:=JJ T hO s (by omega) B w hbk;obtain ⟨p1,p2,hpv⟩:=zek (Yx T s);rw [hpv,zhr,show YM (jU T (spL s))=Q2 T s (zh s) from rfl] at HS;have HS:=kz HS;have HB:=kz (fun w1 (h:Below w.heap.size w w1) =>zaW T hO s (by omega) B w1 (hbk.below h));generalize Q2 T s (zh s)=mm at *;generalize zc5 T s (zh s)=sm at *;clear hpv hbk hO;go_enter Tryz.func13,Tryz.ntmps13;go_wp2_with fail
 refine (oz HS).mono ?_;rintro e w1 ⟨rfl,hb1⟩;have HB1:=kz (hb1.alloc hb1.size (.cells #[.int .i64 p1,.int .i64 p2] 47));have HA:=kz (zbN s hs (w1.alloc (.cells #[.int .i64 p1,.int .i64 p2] 47)));clear HS hb1;generalize zeE s (zh s)=av at *;go_wp2_with fail
 generalize w1.alloc _=wx at *;refine (oz HA).mono ?_;rintro e w2 ⟨rfl,hb2⟩;have HB2:=kz ((oz HB1).trans (hb2.mono (oz HB1).size));clear HA HB1 hb2;have hv:=oz HV0;cases av with
 | true =>
  have HV:=kz (show lv=1 from hv);clear hv HV0 HB;go_wp2_with fail
  go_ret;exact ⟨by rw [oz HV];rfl,oz HB2⟩
 | false =>
  cases mm with
  | false =>
   have HV:=kz (show lv=2 from hv);clear hv HV0 HB;go_wp2_with fail
   go_ret;exact ⟨by rw [oz HV];rfl,oz HB2⟩
  | true =>
   have HV1:=kz (show lv=(if sm then 3 else 4) from hv);have HC:=kz (oz HB w2 (oz HB2));clear hv HV0 HB;go_wp2_with fail
   refine (oz HC).mono ?_;rintro e w3 ⟨rfl,hb3⟩;have HB3:=kz ((oz HB2).trans (hb3.mono (oz HB2).size));clear HC HB2 hb3;cases sm with
   | true =>
    have HV:=kz (show lv=3 from oz HV1);clear HV1;go_wp2_with fail
    go_ret;exact ⟨by rw [oz HV];rfl,oz HB3⟩
   | false =>
    have HV:=kz (show lv=4 from oz HV1);clear HV1;go_wp2_with fail
    go_ret;exact ⟨by rw [oz HV];rfl,oz HB3⟩
end
section
open Go.RowKit Go.Shelf
end
section
open Go.RowKit Go.Shelf Go.Maps
def ziy (s:ByteArray) (n:Nat):ByteArray:=if n < s.size then s.extract 0 n else s
theorem zgh (s:ByteArray) (n:Nat):(ziy s n).size≤n:=by
 unfold ziy;split
 ·rw [ByteArray.size_extract];omega
 ·omega
set_option maxRecDepth 100000
set_option maxHeartbeats 8000000
theorem zkG (s:ByteArray) (hs:s.size≤1000000000) (n:Nat) (hn:n≤1000000) (w:World):Calls Tryz.prog 18 #[.string s,.int .i64 n] w fun e w' =>e=.returned (.string (ziy s n))∧w'=w:=by
 by_cases h:n < s.size
 ·have hv:=kz (show ziy s n=s.extract 0 n from if_pos h);have h1:(s.size:Int) > (n:Int):=by omega
  have h2:(n:Int)≤(s.size:Int):=by omega
  have h3:((n:Nat):Int).toNat=n:=by omega
  go_enter Tryz.func18,Tryz.ntmps18;go_wp2;go_ret;exact ⟨by rw [oz hv];rfl,rfl⟩
 ·have hv:=kz (show ziy s n=s from if_neg h);have h1:¬ (s.size:Int) > (n:Int):=by omega
  go_enter Tryz.func18,Tryz.ntmps18;go_wp2;go_ret;exact ⟨by rw [oz hv];rfl,rfl⟩
theorem zd1 (T:TV) (hT:TabB T) (A:TbA) (s:ByteArray) (zs:List Nat) (a:Option Addr) (c:Nat) (n:Int) (hn:n < 0∨(T.sc.length:Int)≤n) (W:World) (hA:Yb W T A) :
  Calls Tryz.prog 25 #[.agg #[.slice A.a0 T.sc.length A.c0,.slice A.a1 T.co.length A.c1,.slice A.a2 T.ma.length A.c2,.slice A.a3 T.pr.length A.c3,.slice A.a4 T.fo.length A.c4,.slice A.a5 T.lk.length A.c5,.slice A.a6 T.dr.length A.c6,.slice A.a7 T.al.length A.c7],.slice a zs.length c,.int .i64 n] W fun e w' =>e=.returned (.bool false)∧Below W.heap.size W w':=by
 have hmx:=zdA
 have HX:=kz (TbX.start hA);have hsc:T.sc.length≤1048576:=hT.n0;clear hA hT;by_cases h0:n < 0
 ·clear hn;go_enter Tryz.func25,Tryz.ntmps25;go_wp2_with fail
  go_ret;exact ⟨rfl,(oz HX).bl⟩
 ·have h1:(T.sc.length:Int)≤n:=by omega
  clear hn;go_enter Tryz.func25,Tryz.ntmps25;go_wp2_with fail
  go_ret;exact ⟨rfl,(oz HX).bl⟩
theorem zjr (T:TV) (s:ByteArray) (n:Nat) (hn:n < T.sc.length):inI (ZT T s) (n:Int)=zds T s (zh s) n:=by
 unfold inI ZT zds;rw [ZM];rw [Bool.eq_iff_iff];simp [List.all_eq_true,spL];constructor
 ·rintro ⟨x,hx,h1,h2⟩;obtain rfl:x=n:=by omega
  exact h1
 ·intro h;exact ⟨n,hn,h,rfl⟩
theorem zjs (T:TV) (s:ByteArray) (n:Int) (hn:n < 0∨(T.sc.length:Int)≤n):inI (ZT T s) n=false:=by
 unfold inI ZT;rw [ZM];simp;intro x hx;omega
theorem zd2 (T:TV) (hT:TabB T) (A:TbA) (s:ByteArray) (hz:(zh s).length≤1000000) (a:Option Addr) (c:Nat) (n:Int) (W:World) (hA:Yb W T A) (hr:RowC W W.heap.size a ((zh s).flatMap (yG s))) :
  Calls Tryz.prog 25 #[.agg #[.slice A.a0 T.sc.length A.c0,.slice A.a1 T.co.length A.c1,.slice A.a2 T.ma.length A.c2,.slice A.a3 T.pr.length A.c3,.slice A.a4 T.fo.length A.c4,.slice A.a5 T.lk.length A.c5,.slice A.a6 T.dr.length A.c6,.slice A.a7 T.al.length A.c7],.slice a (zh s).length c,.int .i64 n] W fun e w' =>e=.returned (.bool (inI (ZT T s) n))∧Below W.heap.size W w':=by
 by_cases h:n < 0∨(T.sc.length:Int)≤n
 ·rw [zjs T s n h];exact zd1 T hT A s (zh s) a c n h W hA
 ·obtain ⟨k,rfl⟩:∃ k:Nat,n=(k:Int):=⟨n.toNat,by omega⟩;rw [zjr T s k (by omega)];exact zbc T hT A s (zh s) hz a c k (by omega) W hA hr
end
section
open Go.RowKit Go.Shelf
def KeepsZ (B lo:Nat) (W W':World):Prop:=(∀ b cur t,Blk W b cur t→t≠35→b≠B→Blk W' b cur t)∧Below lo W W'∧∀ (k:Nat) (o:Obj),W.heap[k]?=some o→o.isCells=false→W'.heap[k]?=some o
theorem KeepsZ.refl (B lo:Nat) (W:World):KeepsZ B lo W W:=⟨fun _ _ _ h _ _ =>h,zl,fun _ _ h _ =>h⟩
theorem KeepsZ.trans {B lo:Nat} {W W1 W2:World} (h:KeepsZ B lo W W1) (k:KeepsZ B lo W1 W2):KeepsZ B lo W W2:=⟨fun b cur t hb h1 h2 =>k.1 b cur t (h.1 b cur t hb h1 h2) h1 h2,h.2.1.trans k.2.1,fun i o hi ho =>k.2.2 i o (h.2.2 i o hi ho) ho⟩
theorem KeepsZ.alloc {B lo:Nat} {W W1:World} (h:KeepsZ B lo W W1) (hl:lo≤W1.heap.size) (o:Obj):KeepsZ B lo W (W1.alloc o):=⟨fun b cur t hb h1 h2 =>(h.1 b cur t hb h1 h2).alloc o,h.2.1.alloc hl o,fun i q hi hq =>(Below.heap_alloc W1 o i (zeI.1 (h.2.2 i q hi hq)).1).trans (h.2.2 i q hi hq)⟩
theorem KeepsZ.drew {B lo:Nat} {W W1:World} (h:KeepsZ B lo W W1):KeepsZ B lo W W1.drew:=⟨h.1,h.2.1.drew,h.2.2⟩
theorem KeepsZ.below {B lo:Nat} {W W1 W2:World} (h:KeepsZ B lo W W1) (hl:lo≤W1.heap.size) (k:Below W1.heap.size W1 W2):KeepsZ B lo W W2:=⟨fun b cur t hb h1 h2 =>have q:=h.1 b cur t hb h1 h2;q.below k q.lt,h.2.1.trans (k.mono hl),fun i o hi ho =>(k.block i (zeI.1 (h.2.2 i o hi ho)).1).trans (h.2.2 i o hi ho)⟩
theorem ziY {W:World} {k b i:Nat} {o:Obj} (v:Value) (h:W.heap[k]?=some o) (ho:o.isCells=false):(W.setCell ⟨b,i,none⟩ v).heap[k]?=some o:=by
 unfold World.setCell;simp only [Array.getElem?_modify,h];split
 ·cases o <;> first | rfl | (cases ho)
 ·rfl
theorem KeepsZ.set {B lo:Nat} {W W1:World} (h:KeepsZ B lo W W1) (hl:lo≤B) (i:Nat) (v:Value):KeepsZ B lo W (W1.setCell ⟨B,i,none⟩ v):=⟨fun b cur t hb h1 h2 =>(h.1 b cur t hb h1 h2).other h2 v,h.2.1.setCell (p:=⟨B,i,none⟩) hl v,fun k o hk ho =>ziY v (h.2.2 k o hk ho) ho⟩
theorem SlAt.ncZ {W:World} {lo:Nat} {E:TypeId} {v:Value} {us:List Value} {k:Nat} {o:Obj} (h:SlAt W lo E v us) (hk:W.heap[k]?=some o) (ho:o.isCells=false):some k≠v.ownBlock:=by
 rcases h with ⟨rfl,_⟩ | ⟨g,o',cap,cur,rfl,hl,hg,_⟩
 ·simp [Value.ownBlock]
 ·intro e;obtain rfl:k=g:=by simpa [Value.ownBlock] using e
  rw [show W.heap[k]?=_ from hg] at hk;cases hk
  cases ho
theorem KeepsZ.sl {B lo:Nat} {W W1 W2:World} {v:Value} {us:List Value} (h:KeepsZ B lo W W1) (hs:SlAt W1 lo 35 v us) (hl:lo≤W1.heap.size) (hg:W1.grownBy W2 v.ownBlock):KeepsZ B lo W W2 :=
 ⟨fun b cur t hb h1 h2 =>have q:=h.1 b cur t hb h1 h2;q.kept hg (hs.blk_ne q h1),h.2.1.grown hg hl (fun k hk =>(hs.lt k hk).1),fun k o hk ho =>(hg.block k (zeI.1 (h.2.2 k o hk ho)).1 (hs.ncZ (h.2.2 k o hk ho) ho)).trans (h.2.2 k o hk ho)⟩
theorem KeepsZ.own {B lo:Nat} {W W':World} (h:KeepsZ B lo W W') {c:Array Value} (hB:Blk W B c 57) {base n:Nat} {v:Value} {xs:List Value} (hr:W.ownsRow base 3 1 v n xs):W'.ownsRow base 3 1 v n xs:=by
 refine ⟨hr.1, ?_⟩;rcases hr.2 with hn | ⟨g,cap,cur,rfl,h1,h2,rest⟩
 ·exact .inl hn
 ·refine .inr ⟨g,cap,cur,rfl,h1,h.1 g cur _ h2 (by decide) (fun e =>?_),rest⟩;subst e;have:=(show W.heap[g]?=_ from hB).symm.trans h2;simp at this
structure BkZ (W:World) (B lo:Nat) (vs cs:List Value) (lv wv:Value) (h:Int):Prop where
 blk:Blk W B #[lv,wv,.int .i64 h,.bool false] 57
 ls:SlAt W lo 35 lv vs
 ws:SlAt W lo 35 wv cs
 ap:lv.ownBlock=none∨lv.ownBlock≠wv.ownBlock
 lo_le:lo≤B
section
variable {W W2:World} {B lo:Nat} {vs cs:List Value} {lv wv:Value} {h:Int}
theorem BkZ.alloc (b:BkZ W B lo vs cs lv wv h) (o:Obj):BkZ (W.alloc o) B lo vs cs lv wv h:=⟨b.blk.alloc o,b.ls.alloc o,b.ws.alloc o,b.ap,b.lo_le⟩
theorem BkZ.below (b:BkZ W B lo vs cs lv wv h) (k:Below W.heap.size W W2):BkZ W2 B lo vs cs lv wv h :=
 ⟨b.blk.below k b.blk.lt,b.ls.kept (XI k) (by cases lv.ownBlock <;> simp),b.ws.kept (XI k) (by cases wv.ownBlock <;> simp),b.ap,b.lo_le⟩
theorem BkZ.drew (b:BkZ W B lo vs cs lv wv h):BkZ W.drew B lo vs cs lv wv h:=⟨b.blk,b.ls,b.ws,b.ap,b.lo_le⟩
theorem BkZ.app1 (b:BkZ W B lo vs cs lv wv h) {u:Value} {g o n cap:Nat} (hs:SlAt W2 lo 35 (.slice (some ⟨g,o,none⟩) n cap) (vs++[u])) (hg:W.grownBy W2 lv.ownBlock) (hat:lv.ownBlock=some g∨W.heap.size≤g) :
  Blk W2 B #[lv,wv,.int .i64 h,.bool false] 57∧BkZ (W2.setCell ⟨B,0,none⟩ (.slice (some ⟨g,o,none⟩) n cap)) B lo (vs++[u]) cs (.slice (some ⟨g,o,none⟩) n cap) wv h:=by
 have kB:=b.blk.kept hg (b.ls.blk_ne b.blk (by decide));have kw:=b.ws.kept hg (Kk b.ap);refine ⟨kB,kB.set 0 _,hs.set kB (by decide) _,kw.set kB (by decide) _, ?_,b.lo_le⟩;refine .inr fun e =>?_
 rcases hat with ha | ha
 ·rcases b.ap with hb | hb
  ·rw [hb] at ha;cases ha
  ·exact hb (ha.trans e)
 ·have:=(b.ws.lt g e.symm).2;omega
theorem BkZ.app2 (b:BkZ W B lo vs cs lv wv h) {u:Value} {g o n cap:Nat} (hs:SlAt W2 lo 35 (.slice (some ⟨g,o,none⟩) n cap) (cs++[u])) (hg:W.grownBy W2 wv.ownBlock) (hat:wv.ownBlock=some g∨W.heap.size≤g) :
  Blk W2 B #[lv,wv,.int .i64 h,.bool false] 57∧BkZ (W2.setCell ⟨B,1,none⟩ (.slice (some ⟨g,o,none⟩) n cap)) B lo vs (cs++[u]) lv (.slice (some ⟨g,o,none⟩) n cap) h:=by
 have kB:=b.blk.kept hg (b.ws.blk_ne b.blk (by decide));have kl:=b.ls.kept hg b.ap;refine ⟨kB,kB.set 1 _,kl.set kB (by decide) _,hs.set kB (by decide) _, ?_,b.lo_le⟩;cases hl:lv.ownBlock with
 | none =>exact .inl rfl
 | some x =>
  refine .inr fun e =>?_
  have e':x=g:=by simpa [Value.ownBlock] using e
  subst e';rcases hat with ha | ha
  ·rcases b.ap with hb | hb
   ·rw [hb] at hl;cases hl
   ·exact hb (hl.trans ha.symm)
  ·have:=(b.ls.lt x hl).2;omega
theorem BkZ.held (b:BkZ W B lo vs cs lv wv h) (h':Int):BkZ (W.setCell ⟨B,2,none⟩ (.int .i64 h')) B lo vs cs lv wv h' :=
 ⟨b.blk.set 2 _,b.ls.set b.blk (by decide) _,b.ws.set b.blk (by decide) _,b.ap,b.lo_le⟩
theorem BkZ.good (b:BkZ W B lo vs cs lv wv h):BkZ (W.setCell ⟨B,3,none⟩ (.bool false)) B lo vs cs lv wv h :=
 ⟨b.blk.set 3 _,b.ls.set b.blk (by decide) _,b.ws.set b.blk (by decide) _,b.ap,b.lo_le⟩
theorem BkZ.tail1 {g o n cap:Nat} {u:Value} {us:List Value} (b:BkZ W B lo (u::us) cs (.slice (some ⟨g,o,none⟩) n cap) wv h):BkZ (W.setCell ⟨B,0,none⟩ (.slice (some ⟨g,o+1,none⟩) us.length (cap - 1))) B lo us cs (.slice (some ⟨g,o+1,none⟩) us.length (cap - 1)) wv h :=
 ⟨b.blk.set 0 _,b.ls.tail.set b.blk (by decide) _,b.ws.set b.blk (by decide) _,by simpa [Value.ownBlock] using b.ap,b.lo_le⟩
theorem BkZ.tail2 {g o n cap:Nat} {u:Value} {us:List Value} (b:BkZ W B lo vs (u::us) lv (.slice (some ⟨g,o,none⟩) n cap) h):BkZ (W.setCell ⟨B,1,none⟩ (.slice (some ⟨g,o+1,none⟩) us.length (cap - 1))) B lo vs us lv (.slice (some ⟨g,o+1,none⟩) us.length (cap - 1)) h :=
 ⟨b.blk.set 1 _,b.ls.set b.blk (by decide) _,b.ws.tail.set b.blk (by decide) _,by simpa [Value.ownBlock] using b.ap,b.lo_le⟩
end
structure ItZ where
 v:Value
 c:Value
 zs:List Int
abbrev QA (zs:List Int):List Value:=zs.map (Value.int .i64)
def OkZ (W:World) (lo:Nat) (it:ItZ):Prop:=W.ownsRow lo 3 1 it.v it.zs.length (QA it.zs)∧W.ownsRow lo 3 1 it.c it.zs.length (QA it.zs)
structure BookZ (W:World) (B lo:Nat) (its:List ItZ) (lv wv:Value) (h:Int):Prop where
 bk:BkZ W B lo (its.map ItZ.v) (its.map ItZ.c) lv wv h
 own:∀ it ∈ its,OkZ W lo it
 dis:its.Pairwise (fun a b =>a.v.ownBlock=none∨a.v.ownBlock≠b.v.ownBlock)
theorem OkZ.kept {W W':World} {B lo:Nat} {it:ItZ} (h:OkZ W lo it) (k:KeepsZ B lo W W') {c:Array Value} (hB:Blk W B c 57):OkZ W' lo it:=⟨k.own hB h.1,k.own hB h.2⟩
theorem BookZ.below {W W':World} {B lo:Nat} {its:List ItZ} {lv wv:Value} {h:Int} (b:BookZ W B lo its lv wv h) (hl:lo≤W.heap.size) (k:Below W.heap.size W W'):BookZ W' B lo its lv wv h :=
 ⟨b.bk.below k,fun it hi =>(b.own it hi).kept ((KeepsZ.refl B lo W).below hl k) b.bk.blk,b.dis⟩
end
end Go.Proofs.YthchopdfmchpkaaGreat
