/- Texts of this claim, one behind the other. -/
import Derived.Test.YtmdgejgokoadlaaGreatDoorM1
import Derived.Test.YtmdgejgokoadlaaGreatDoorM3
import Derived.Lib.QuietBelow
import Derived.BigQuiet
import Derived.Maps.AppendAt
import Derived.Deep.QuietTactic
import Derived.Laws.StructEq
import Derived.WalkKit
import Derived.BigRegion
/- Plain facts: the numbers of the spots' first bytes are just the bounds below the end; the last spot is what Last answers; how a list of spots lies in memory. -/
namespace Go.Proofs.YtmdgejgokoadlaaGreatDoor
open Go.RowKit Go.Shelf
set_option linter.unusedVariables false

theorem zb2 (s:ByteArray):∀ f i p,p ∈ zaj s f i→i≤p∧p < s.size
 | 0,i,p,h =>by simp [zaj] at h
 | f+1,i,p,h =>by
  unfold zaj at h
  split at h
  ·rename_i hi
   rcases List.mem_cons.1 h with rfl | h
   ·exact ⟨Nat.le_refl _,hi⟩
   ·have:=zb2 s f _ p h
    exact ⟨by omega,this.2⟩
  ·cases h

theorem bd_within (s:ByteArray) (i p:Nat) (h1:i < p) (h2:p < i+wd s i):bdB s p=false:=by
 have h4:=ze0 s i
 rw [← Bool.not_eq_true,zdu]
 intro h
 have:=h (p - i) (by omega) (by omega) (by omega)
 rw [show p - (p - i)=i by omega] at this
 omega

set_option maxRecDepth 100000 in
set_option maxHeartbeats 4000000 in
theorem zln (t:ByteArray) (ht:t.size < 4294967281) (m:Int) (w:World) (hm:w.cell? ⟨7,0,none⟩=some (.int .i64 m)):Calls Tryz.prog 138 #[.string t] w fun e w' =>e=.returned (tupB (zeh t))∧Below w.heap.size w w':=by
 obtain ⟨l,hl⟩:∃ l,l=t.extract 0 (zd0 t):=⟨_,rfl⟩
 have hls:l.size≤t.size:=by rw [hl,ByteArray.size_extract];omega
 have hlm:l.size≤maxLen:=by unfold maxLen;omega
 have hrv:zeh t=match zbv l with | none =>(l.size,true) | some x =>(x+zaZ (l.extract x l.size),false):=by subst hl;unfold zeh;cases zbv (t.extract 0 (zd0 t)) <;> rfl
 have hcn:=cut_nl t
 rw [← hl] at hcn
 have HRV:=kz hrv
 have HCN:=kz hcn
 have HLM:=kz hlm
 have hll:(l.size:Int)≤4294967281:=by omega
 clear hl hrv hcn hlm
 go_enter Tryz.func138,Tryz.ntmps138
 go_wp2_with fail
 refine (cut_sh t ⟨#[10]⟩ m _ ht hm).mono ?_
 rintro e w1 ⟨rfl,nq,rfl⟩
 have hb0:Below w.heap.size w (w.drewN nq):=⟨rfl,rfl,rfl,Nat.le_refl _,fun _ _ =>rfl⟩
 rw [show (⟨(Lib.cut t.data.toList (ByteArray.mk #[10]).data.toList).1.toArray⟩:ByteArray)=l from oz HCN]
 generalize (⟨(Lib.cut t.data.toList (ByteArray.mk #[10]).data.toList).2.1.toArray⟩:ByteArray)=c1
 generalize (Lib.cut t.data.toList (ByteArray.mk #[10]).data.toList).2.2=c2
 have HB0:=kz hb0
 clear hb0
 generalize w.drewN nq=w1 at *
 go_wp2_with fail
 refine (valid_any l (oz HLM) _).mono ?_
 rintro e w2 ⟨rfl,hb⟩
 have HB1:=kz ((oz HB0).trans (hb.mono (oz HB0).size))
 clear hb HB0
 cases hbd:zbv l with
 | none =>
  rw [zi8 hbd]
  have hrv:=oz HRV
  rw [hbd] at hrv
  have HR:=kz hrv
  have HB2:=kz ((oz HB1).alloc (oz HB1).size (.cells #[.int .i64 0,.int .i64 0] 247))
  clear hrv HRV HB1
  go_wp2_with fail
  go_ret2
  exact ⟨by rw [oz HR];rfl,oz HB2⟩
 | some x =>
  obtain ⟨y,hy⟩:=zi7 hbd
  rw [hy]
  have hrv:=oz HRV
  rw [hbd] at hrv
  have HR:=kz hrv
  have hxs:x < l.size:=(zb2 l l.size 0 x (List.mem_of_find?_eq_some hbd)).2
  have hx1:(x:Int)≤(l.size:Int):=by omega
  have hx3:(x:Int)≤4294967281:=by omega
  have hx2:((x:Nat):Int).toNat=x:=by omega
  have hq:=(oz HB1).alloc (oz HB1).size (.cells #[.int .i64 x,.int .i64 y] 247)
  have hblk:=Blk.new w2 #[.int .i64 x,.int .i64 y] 247
  have HB2:=kz hq
  have HBLK:=kz hblk
  have hbl:zaZ (l.extract x l.size)≤(l.extract x l.size).size:=(zbT _ (Nat.zero_le _)).2
  have hbz:(l.extract x l.size).size=l.size - x:=by rw [ByteArray.size_extract];omega
  have hbz2:(zaZ (l.extract x l.size):Int)≤4294967281:=by omega
  have hbz3:(l.extract x l.size).size≤4611686018427387904:=by omega
  clear hrv HRV HB1 hy hbd hq hblk hbz hbl
  go_wp2_with fail
  generalize w2.alloc (.cells #[.int .i64 x,.int .i64 y] 247)=w3 at *
  have k0:=cell_regrown (show w3.cell? ⟨w2.heap.size,0,none⟩=some (.int .i64 (x:Int)) from (oz HBLK).cell 0)
  refine wp_region_quiet_below (by kernel_rfl) (by kernel_rfl) ?_
  repeat (quiet_step (exact Calls.regrown_of (zg9 (l.extract x l.size) hbz3 _)))
  refine wpQuiet_nil ?_
  intro _ hw'
  obtain ⟨⟨dq,osq⟩,hw''⟩:=hw'
  subst hw''
  have HB3:=kz ((oz HB2).trans ((below_regrown w3 dq osq).mono (oz HB2).size))
  go_wp2_with fail
  go_ret2
  exact ⟨by rw [oz HR];exact tupB_mk (by rw [zhc (by omega) (by omega)];omega),oz HB3⟩
theorem ze8 (t:ByteArray):(zbv (t.extract 0 (zd0 t))=none∧zeh t=(zd0 t,true))∨∃ x,zbv (t.extract 0 (zd0 t))=some x∧zeh t=(x+zaZ ((t.extract 0 (zd0 t)).extract x (t.extract 0 (zd0 t)).size),false):=by
 have hz:(t.extract 0 (zd0 t)).size=zd0 t:=by rw [ByteArray.size_extract];have:=zer t;omega
 unfold zeh
 cases h:zbv (t.extract 0 (zd0 t)) with
 | none =>exact .inl ⟨rfl,by rw [hz]⟩
 | some x =>exact .inr ⟨x,rfl,rfl⟩
theorem remV_le (t:ByteArray):(zeh t).1≤t.size:=by
 have hz:(t.extract 0 (zd0 t)).size=zd0 t:=by rw [ByteArray.size_extract];have:=zer t;omega
 have hn:=zer t
 rcases ze8 t with ⟨_,e⟩ | ⟨x,hx,e⟩
 ·rw [e];exact hn
 ·rw [e]
  show x+_≤t.size
  generalize t.extract 0 (zd0 t)=l at *
  have h1:=(zb2 _ _ 0 x (List.mem_of_find?_eq_some hx)).2
  have h2:zaZ (l.extract x l.size)≤(l.extract x l.size).size:=(zbT _ (Nat.zero_le _)).2
  have h3:(l.extract x l.size).size=l.size - x:=by rw [ByteArray.size_extract];omega
  omega
theorem zj8 (t:ByteArray) (h:0 < t.size) (h0:bt t 0≠10) (hok:(zeh t).2=true):1≤(zeh t).1:=by
 rcases ze8 t with ⟨_,e⟩ | ⟨x,hx,e⟩
 ·rw [e]
  show 1≤zd0 t
  unfold zd0
  rw [zbx h (by simp [h0])]
  exact (zbT _ (by omega)).1
 ·rw [e] at hok;cases hok
def zbk (t:ByteArray):Nat→Nat→Nat × Bool
 | 0,n =>(t.size,true)
 | f+1,n =>
  if n < t.size then
   if zca (bt t n)=true then zbk t f (n+1)
   else if bt t n=35 then (if (zeh (t.extract n t.size)).2=true then zbk t f (n+(zeh (t.extract n t.size)).1) else (n+(zeh (t.extract n t.size)).1,false))
   else (n,true)
  else (t.size,true)
def zd2 (t:ByteArray):Nat × Bool:=zbk t t.size 0
set_option maxRecDepth 100000 in
set_option maxHeartbeats 4000000 in
theorem gap_any (t:ByteArray) (ht:t.size < 4294967281) (m:Int) (w:World) (hm:w.cell? ⟨7,0,none⟩=some (.int .i64 m)) (hg:7 < w.heap.size):Calls Tryz.prog 95 #[.string t] w fun e w' =>e=.returned (tupB (zd2 t))∧Below w.heap.size w w':=by
 have HM:=kz hm
 clear hm
 have htb:(t.size:Int)≤4294967281:=by omega
 go_enter Tryz.func95,Tryz.ntmps95
 go_wp2
 go_loopw [4,5,6,12,19] (fun i _ _ _ _ wr => ∃ k f:Nat,k≤t.size∧t.size≤k+f∧i=.int .i64 k∧Hz (zd2 t=zbk t f k)∧Hz (Below w.heap.size w wr)) (fun i _ _ _ _ _ =>t.size - (intOf i).toNat)
 case atStart =>exact ⟨0,t.size,by omega,by omega,rfl,kz rfl,kz (Below.refl _ _)⟩
 case round =>
  obtain ⟨k,f,hk,hf,rfl,HK,HW⟩:=hrel
  by_cases hkt:k < t.size
  ·obtain ⟨f,rfl⟩:∃ g,f=g+1:=⟨f - 1,by omega⟩
   have hkt':(k:Int) < (t.size:Int):=by omega
   have hkb:(k:Int)≤4294967281:=by omega
   have hi2:((k:Nat):Int).toNat=k:=by omega
   have hbk:=zaz t k hkt
   have hgo:=oz HK
   rw [zbk,if_pos hkt] at hgo
   cases hbl:zca (bt t k) with
   | true =>
    rw [if_pos hbl] at hgo
    have HG:=kz hgo
    rw [hbk] at hbl
    clear hbk hgo HK
    go_wp2_with fail
    refine (zes _ _).mono ?_
    rintro e w' ⟨rfl,rfl⟩
    rw [hbl]
    go_wp2_with fail
    go_roundw
    case rel =>exact ⟨k+1,f,by omega,by omega,by go_num,HG,HW⟩
    case measure =>simp [intOf];omega
   | false =>
    rw [if_neg (by rw [hbl];decide)] at hgo
    by_cases h35:bt t k=35
    ·rw [if_pos h35] at hgo
     have hbk0:bt (t.extract k t.size) 0=35:=by
      unfold bt at h35 ⊢
      rw [zbN t k 0 (by omega),Nat.add_zero]
      exact h35
     have hsz:(t.extract k t.size).size=t.size - k:=by rw [ByteArray.size_extract];omega
     obtain ⟨u,hu⟩:∃ u,u=t.extract k t.size:=⟨_,rfl⟩
     rw [← hu] at hgo hbk0 hsz
     have hrl:=remV_le u
     have hrp:=zj8 u (by omega) (by omega)
     have HM2:∀ wr,Below w.heap.size w wr→wr.cell? ⟨7,0,none⟩=some (.int .i64 m):=fun wr hb =>(hb.cell (p:=⟨7,0,none⟩) hg).trans (oz HM)
     have hrem:=zln u (by omega) m wr (HM2 wr (oz HW))
     obtain ⟨rn1,rok,hrv⟩:∃ a b,zeh u=(a,b):=⟨_,_,rfl⟩
     rw [hrv] at hgo hrl hrp hrem
     have hrb:(rn1:Int)≤4294967281:=by have h:rn1≤u.size:=hrl;omega
     have hrl':rn1≤u.size:=hrl
     have hrp':rok=true→1≤rn1:=hrp
     have hc35:(((t[k]'hkt).toNat:Int) == 35)=true:=by rw [← hbk,h35];rfl
     have hue:t.extract k t.size=u:=hu.symm
     have HREM:=kz hrem
     have HGO:=kz hgo
     rw [hbk] at hbl
     clear hbk hgo HK h35 hbk0 hu hrl hrp hrem HM2
     go_wp2_with fail
     refine (zes _ _).mono ?_
     rintro e w' ⟨rfl,rfl⟩
     rw [hbl]
     go_wp2_with fail
     refine (oz HREM).mono ?_
     rintro e w2 ⟨rfl,hb⟩
     have HW2:=kz ((oz HW).trans (hb.mono (oz HW).size))
     clear hb
     cases rok with
     | true =>
      have hgo:=oz HGO
      have HG:Hz (zd2 t=zbk t f (k+rn1)):=kz (by rw [hgo];rfl)
      have h1:=hrp' rfl
      clear hgo HGO hrp'
      go_wp2_with fail
      go_roundw
      case rel =>exact ⟨k+rn1,f,by omega,by omega,by go_num,HG,HW2⟩
      case measure =>simp [intOf];omega
     | false =>
      have HG:Hz (zd2 t=(k+rn1,false)):=kz (by rw [oz HGO];rfl)
      clear HGO hrp'
      go_wp2_with fail
      go_ret2
      exact ⟨by rw [oz HG];exact tupB_mk (by omega),oz HW2⟩
    ·rw [if_neg h35] at hgo
     have HG:=kz hgo
     have hc35:(((t[k]'hkt).toNat:Int) == 35)=false:=by rw [beq_eq_false_iff_ne, ← hbk];omega
     rw [hbk] at hbl
     clear hbk hgo HK h35
     go_wp2_with fail
     refine (zes _ _).mono ?_
     rintro e w' ⟨rfl,rfl⟩
     rw [hbl]
     go_wp2_with fail
     go_ret2
     exact ⟨by rw [oz HG];rfl,oz HW⟩
  ·have hkt':¬ (k:Int) < (t.size:Int):=by omega
   have HG:Hz (zd2 t=(t.size,true)):=kz (by
    rw [oz HK]
    cases f with
    | zero =>rfl
    | succ f =>rw [zbk,if_neg hkt])
   go_wp2_with fail
   go_ret2
   exact ⟨by rw [oz HG];rfl,oz HW⟩
abbrev ziY (s:ByteArray) (b l c:Int) (v:Value):Array Value:=#[.string s,.int .i64 b,.int .i64 l,.int .i64 c,v]
set_option maxHeartbeats 2000000 in
theorem zhx (C:Nat) (s:ByteArray) (b:Nat) (hb:b≤s.size) (hs:s.size≤4294967281) (l c:Int) (v:Value) (w:World) (h:Blk w C (ziY s b l c v) 135) :
  Calls Tryz.prog 96 #[.pointer (some ⟨C,0,none⟩)] w fun e w' =>e=.returned (.string (s.extract b s.size))∧∃ n,w'=w.drewN n:=by
 have k0:=h.cell 0
 have k1:=h.cell 1
 have hb1:(b:Int)≤(s.size:Int):=by omega
 have hb2:((b:Nat):Int).toNat=b:=by omega
 clear h
 go_enter Tryz.func96,Tryz.ntmps96
 go_wp2
 go_quiet (fail)
 go_wp2
 go_ret
 exact ⟨rfl,_,rfl⟩
def zcQ (t:ByteArray) (x:Nat × Nat) (p:Nat):Nat × Nat:=if rn t p=10 then (x.1+1,1) else (x.1,x.2+1)
def lcF (t:ByteArray) (x:Nat × Nat) (ps:List Nat):Nat × Nat:=ps.foldl (zcQ t) x
theorem lcF_snoc (t:ByteArray) (x:Nat × Nat) (ps:List Nat) (p:Nat):lcF t x (ps++[p])=zcQ t (lcF t x ps) p:=by simp [lcF]
theorem lcF_le (t:ByteArray) (x:Nat × Nat):∀ ps:List Nat,(lcF t x ps).1≤x.1+ps.length∧(lcF t x ps).2≤x.2+1+ps.length:=by
 intro ps
 induction ps generalizing x with
 | nil =>exact ⟨by simp [lcF],by simp [lcF]⟩
 | cons p ps ih =>
  have:=ih (zcQ t x p)
  have e:lcF t x (p::ps)=lcF t (zcQ t x p) ps:=rfl
  rw [e,List.length_cons]
  have h1:(zcQ t x p).1≤x.1+1∧(zcQ t x p).2≤x.2+1:=by unfold zcQ;split <;> simp
  omega
structure PassSt (w wr:World) (C I:Nat) (u:ByteArray) (pos:Nat) (s:ByteArray) (b l c:Nat) (v:Value):Prop where
 blk:Blk wr C (ziY s b l c v) 135
 it:wr.heap[I]?=some (.stringIter u pos)
 gr:w.grownBy wr (some C)
 ne:C < I
 ge:w.heap.size≤I
theorem iterAt_blk {wr:World} {C I:Nat} {cs:Array Value} {ty:TypeId} (h:Blk wr C cs ty) (hne:C≠I) (u:ByteArray) (pos:Nat):Blk (wr.iterAt I u pos) C cs ty:=(Lib.iterAt_other wr I C u pos hne).trans h
set_option maxRecDepth 100000 in
set_option maxHeartbeats 4000000 in
theorem zke (C:Nat) (s:ByteArray) (b n:Nat) (hbn:b+n≤s.size) (hs:s.size≤4294967281) (l c:Nat) (hl:l≤4294967281) (hc:c≤4294967281) (v:Value) (w:World) (h:Blk w C (ziY s b l c v) 135) :
  Calls Tryz.prog 97 #[.pointer (some ⟨C, 0, none⟩), .int .i64 n] w fun e w' => e = .returned (.tuple #[]) ∧
    Blk w' C (ziY s ((b+n:Nat):Int) (lcF ((s.extract b s.size).extract 0 n) (l,c) (zaw ((s.extract b s.size).extract 0 n))).1 (lcF ((s.extract b s.size).extract 0 n) (l,c) (zaw ((s.extract b s.size).extract 0 n))).2 v) 135∧w.grownBy w' (some C):=by
 have hz1:(s.extract b s.size).size=s.size - b:=by rw [ByteArray.size_extract];omega
 obtain ⟨u,hu⟩:∃ u,u=(s.extract b s.size).extract 0 n:=⟨_,rfl⟩
 have hz2:u.size=n:=by rw [hu,ByteArray.size_extract,hz1];omega
 rw [← hu]
 have hue:(s.extract b s.size).extract 0 n=u:=hu.symm
 have hn1:(n:Int)≤((s.extract b s.size).size:Int):=by omega
 have hn2:((n:Nat):Int).toNat=n:=by omega
 have hnb:(n:Int)≤4294967281:=by omega
 have hbb:(b:Int)≤4294967281:=by omega
 have HZ2:=kz hz2
 have hsl:=zbL u
 have hslb:(zaw u).length≤4294967281:=by omega
 have HB:=kz h
 clear hu hz1 hz2 h
 go_enter Tryz.func97,Tryz.ntmps97
 go_wp2_with fail
 refine (zhx C s b (by omega) hs l c v _ (oz HB)).mono ?_
 rintro e w1 ⟨rfl,q,rfl⟩
 have HB1:Hz (Blk (w.drewN q) C (ziY s b l c v) 135):=kz (oz HB)
 have HG1:Hz (w.grownBy (w.drewN q) (some C)):=kz ⟨rfl,rfl,rfl,Nat.le_refl _,fun _ _ _ =>rfl⟩
 have hsz1:Hz ((w.drewN q).heap.size=w.heap.size):=kz rfl
 have hCw:=(oz HB).lt
 clear HB
 generalize w.drewN q=w1 at *
 go_wp2_with fail
 have HST:Hz (PassSt w (w1.iter u 0) C w1.heap.size u 0 s b l c v):=kz ⟨(oz HB1).alloc _,World.alloc_heap_new w1 _,(oz HG1).trans (World.grownBy_alloc _ _ _),(oz HB1).lt,by have:=oz hsz1;omega⟩
 obtain ⟨I,hI⟩:∃ I,I=w1.heap.size:=⟨_,rfl⟩
 rw [← hI] at HST
 rw [← hI]
 clear HB1 HG1 hsz1 hI
 go_loopw [5] (fun _ wr => ∃ (pre:List Nat) (pos f l' c':Nat),Hz (zaw u=pre++zaj u f pos)∧u.size≤pos+f∧Hz (lcF u (l,c) pre=(l',c'))∧Hz (PassSt w wr C I u pos s b l' c' v)) (fun _ wr =>u.size - wr.iterPos I)
 case atStart =>exact ⟨[],0,u.size,l,c,kz rfl,by omega,kz rfl,HST⟩
 case round =>
  obtain ⟨pre,pos,f,l',c',HS,hf,HL,HR⟩:=hrel
  have hR:=oz HR
  have hlc:=lcF_le u (l,c) pre
  rw [oz HL] at hlc
  by_cases hp:pos < u.size
  ·obtain ⟨g,rfl⟩:∃ g,f=g+1:=⟨f - 1,by omega⟩
   have hpl:pre.length < (zaw u).length:=by
    have h1:=congrArg List.length (oz HS)
    rw [zas u g pos hp] at h1
    simp at h1
    omega
   have hlb:(l':Int)≤8589934600:=by have:l'≤l+pre.length:=hlc.1;omega
   have hcb:(c':Int)≤8589934600:=by have:c'≤c+1+pre.length:=hlc.2;omega
   have hnx:∀ ty,(Instr.next (.pointer (some ⟨I,0,none⟩)) true ty).run Tryz.prog wr=_:=fun ty =>Lib.run_next_any_at wr I u pos ty hR.it hp
   have hwd:=zbh u pos
   obtain ⟨d,hd⟩:∃ d,d=pos+(Utf8.decode u pos).2:=⟨_,rfl⟩
   obtain ⟨x,hx⟩:∃ x,x=(Utf8.decode u pos).1:=⟨_,rfl⟩
   rw [← hd, ← hx] at hnx
   have hne:C≠I:=by have:=hR.ne;omega
   have b0:=iterAt_blk hR.blk hne u d
   have b1:Blk ((wr.iterAt I u d).setCell ⟨C,3,none⟩ (.int .i64 ((c':Int)+1))) C (ziY s b l' ((c':Int)+1) v) 135:=b0.set 3 _
   have b2:Blk (((wr.iterAt I u d).setCell ⟨C,3,none⟩ (.int .i64 ((c':Int)+1))).setCell ⟨C,2,none⟩ (.int .i64 ((l':Int)+1))) C (ziY s b ((l':Int)+1) ((c':Int)+1) v) 135:=b1.set 2 _
   have b3:Blk ((((wr.iterAt I u d).setCell ⟨C,3,none⟩ (.int .i64 ((c':Int)+1))).setCell ⟨C,2,none⟩ (.int .i64 ((l':Int)+1))).setCell ⟨C,3,none⟩ (.int .i64 1)) C (ziY s b ((l':Int)+1) 1 v) 135:=b2.set 3 _
   have i0:(wr.iterAt I u d).heap[I]?=some (.stringIter u d):=Lib.iterAt_heap wr I u pos d hR.it
   have hIne:I≠C:=fun e =>hne e.symm
   have i1:=(Below.heap_setCell (wr.iterAt I u d) ⟨C,3,none⟩ (.int .i64 ((c':Int)+1)) I hIne).trans i0
   have i2:=(Below.heap_setCell _ ⟨C,2,none⟩ (.int .i64 ((l':Int)+1)) I hIne).trans i1
   have i3:=(Below.heap_setCell _ ⟨C,3,none⟩ (.int .i64 1) I hIne).trans i2
   have g0:w.grownBy (wr.iterAt I u d) (some C):=hR.gr.andThen (zc6 wr I u d) (fun j hj =>by cases hj;exact .inl hR.ge)
   have g1:=g0.trans (zaL (wr.iterAt I u d) ⟨C,3,none⟩ (.int .i64 ((c':Int)+1)))
   have g2:=g1.trans (zaL _ ⟨C,2,none⟩ (.int .i64 ((l':Int)+1)))
   have g3:=g2.trans (zaL _ ⟨C,3,none⟩ (.int .i64 1))
   have c03:=b0.cell 3
   have f03:=b0.frozen 3
   have c12:=b1.cell 2
   have f12:=b1.frozen 2
   have f23:=b2.frozen 3
   have c23:=b2.cell 3
   have HS2:Hz (zaw u=(pre++[pos])++zaj u g d):=kz (by rw [oz HS,zas u g pos hp,hd];simp)
   have hL2:lcF u (l,c) (pre++[pos])=if x=10 then (l' + 1,1) else (l',c' + 1):=by rw [lcF_snoc,oz HL,hx];rfl
   by_cases h10:x=10
   ·rw [if_pos h10] at hL2
    have HL2:=kz hL2
    have HB3:=kz (And.intro b3 (And.intro i3 g3))
    have h10':((x:Int) == 10)=true:=by rw [beq_iff_eq];omega
    have HGE:=kz (And.intro hR.ne (And.intro hR.ge (And.intro hd hwd)))
    have HIP:=kz (zbA hR.it)
    clear b0 b1 b2 b3 i0 i1 i2 i3 g0 g1 g2 g3 hL2 HS HL HR hR hlc hd hx h10 hwd
    go_wp2_with fail
    go_roundw
    case rel =>exact ⟨pre++[pos],d,g,l' + 1,1,HS2,by have:=(oz HGE).2.2.1;have:=(oz HGE).2.2.2;simp only [wd] at this;omega,HL2,kz ⟨by have:=(oz HB3).1;simpa using this,(oz HB3).2.1,(oz HB3).2.2,(oz HGE).1,(oz HGE).2.1⟩⟩
    case measure =>
     rw [zbA (oz HB3).2.1,oz HIP]
     have h1:=(oz HGE).2.2.1
     have h2:=(oz HGE).2.2.2
     simp only [wd] at h2
     omega
   ·rw [if_neg h10] at hL2
    have HL2:=kz hL2
    have HB3:=kz (And.intro b1 (And.intro i1 g1))
    have h10':((x:Int) == 10)=false:=by rw [beq_eq_false_iff_ne];omega
    have HGE:=kz (And.intro hR.ne (And.intro hR.ge (And.intro hd hwd)))
    have HIP:=kz (zbA hR.it)
    clear b0 b1 b2 b3 i0 i1 i2 i3 g0 g1 g2 g3 hL2 HS HL HR hR hlc hd hx h10 hwd
    go_wp2_with fail
    go_roundw
    case rel =>exact ⟨pre++[pos],d,g,l',c' + 1,HS2,by have:=(oz HGE).2.2.1;have:=(oz HGE).2.2.2;simp only [wd] at this;omega,HL2,kz ⟨by have:=(oz HB3).1;simpa using this,(oz HB3).2.1,(oz HB3).2.2,(oz HGE).1,(oz HGE).2.1⟩⟩
    case measure =>
     rw [zbA (oz HB3).2.1,oz HIP]
     have h1:=(oz HGE).2.2.1
     have h2:=(oz HGE).2.2.2
     simp only [wd] at h2
     omega
  ·have hnx:∀ ty,(Instr.next (.pointer (some ⟨I,0,none⟩)) true ty).run Tryz.prog wr=_:=fun ty =>Lib.run_next_end_at wr I u pos ty hR.it hp
   have hst:=oz HS
   rw [zav u f pos hp,List.append_nil] at hst
   have k1:=hR.blk.cell 1
   have f1:=hR.blk.frozen 1
   have hE:Blk (wr.setCell ⟨C,1,none⟩ (.int .i64 ((b:Int)+n))) C (ziY s ((b:Int)+n) l' c' v) 135:=hR.blk.set 1 _
   have hG:=hR.gr.trans (zaL wr ⟨C,1,none⟩ (.int .i64 ((b:Int)+n)))
   have HL2:Hz (lcF u (l,c) (zaw u)=(l',c')):=kz (by rw [hst];exact oz HL)
   have HE:=kz (And.intro hE hG)
   clear hE hG hst HS HL HR hR hlc
   go_wp2_with fail
   go_end0
   refine ⟨rfl, ?_,(oz HE).2⟩
   rw [oz HL2]
   exact (oz HE).1
structure WV where
 kind:Nat
 S:ByteArray
 R:Nat
 N:Nat
 n:Nat
 ok:Bool
def za9 (t:ByteArray) (n:Nat):Bool:=decide (n=t.size) || !zdN (bt t n)
def zac (t:ByteArray):WV :=
 if zaP (bt t 0)=true then ⟨1,t.extract 0 (zao t),0,0,zao t,za9 t (zao t)⟩
 else if zcr (bt t 0)=true then ⟨2,ByteArray.empty,0,(zcH t).1,(zcH t).2,za9 t (zcH t).2⟩
 else if bt t 0=85 then ⟨3,ByteArray.empty,(zax t).1,0,(zax t).2.1,(zax t).2.2 && za9 t (zax t).2.1⟩
 else if bt t 0=39 then ⟨3,ByteArray.empty,(zcV t).1,0,(zcV t).2.1,(zcV t).2.2⟩
 else ⟨(zck t).1,ByteArray.empty,0,0,(zck t).2.1,(zck t).2.2⟩
structure Wd where
 v:WV
 b:Nat
 l:Nat
 c:Nat
 e:Nat
def zfV (x:Wd):List Value := [.int .i64 x.v.kind,.string x.v.S,.int .i32 x.v.R,.int .i64 x.v.N,.int .i64 x.b,.int .i64 x.l,.int .i64 x.c,.int .i64 x.e]
def zgA (ws:List Wd):List Value:=ws.flatMap zfV
theorem encWs_snoc (ws:List Wd) (x:Wd):zgA (ws++[x])=zgA ws++zfV x:=by simp [zgA]
abbrev rst (s:ByteArray) (b:Nat):ByteArray:=s.extract b s.size
def lcB (t:ByteArray) (x:Nat × Nat) (n:Nat):Nat × Nat:=lcF (t.extract 0 n) x (zaw (t.extract 0 n))
def gB (s:ByteArray) (b:Nat):Nat:=b+(zd2 (rst s b)).1
def gLC (s:ByteArray) (b:Nat) (x:Nat × Nat):Nat × Nat:=lcB (rst s b) x (zd2 (rst s b)).1
structure CutV where
 ok:Bool
 b:Nat
 lc:Nat × Nat
 ws:List Wd
def cutGo (s:ByteArray):Nat→Nat→Nat × Nat→List Wd→CutV
 | 0,b,x,ws =>⟨false,b,x,ws⟩
 | f+1,b,x,ws =>
  if (zd2 (rst s b)).2=false then ⟨false,gB s b,gLC s b x,ws⟩
  else if (rst s (gB s b)).size=0 then ⟨true,gB s b,gLC s b x,ws⟩
  else if (zac (rst s (gB s b))).ok=false then ⟨false,gB s b+(zac (rst s (gB s b))).n,lcB (rst s (gB s b)) (gLC s b x) (zac (rst s (gB s b))).n,ws⟩
  else cutGo s f (gB s b+(zac (rst s (gB s b))).n) (lcB (rst s (gB s b)) (gLC s b x) (zac (rst s (gB s b))).n) (ws++[⟨zac (rst s (gB s b)),gB s b,(gLC s b x).1,(gLC s b x).2,gB s b+(zac (rst s (gB s b))).n⟩])
theorem zhJ (t:ByteArray):∀ f n,n≤t.size→(zbk t f n).1≤t.size
 | 0,n,h =>Nat.le_refl _
 | f+1,n,h =>by
  unfold zbk
  split
  ·split
   ·exact zhJ t f (n+1) (by omega)
   ·split
    ·have:=remV_le (t.extract n t.size)
     rw [ByteArray.size_extract] at this
     split
     ·exact zhJ t f _ (by omega)
     ·show n+_≤t.size;omega
    ·exact h
  ·exact Nat.le_refl _
theorem gapV_le (t:ByteArray):(zd2 t).1≤t.size:=zhJ t _ 0 (Nat.zero_le _)
theorem zah (s:ByteArray) (b:Nat):(rst s b).size=s.size - b:=by rw [ByteArray.size_extract];omega
theorem ziM (s:ByteArray) (b:Nat) (h:b≤s.size):b≤gB s b∧gB s b≤s.size:=by
 have:=gapV_le (rst s b)
 rw [zah] at this
 unfold gB
 omega
theorem zgd (t:ByteArray):∀ k v n,t.size≤n+k→n≤t.size→n≤(zaO t v n).2∧(zaO t v n).2≤t.size∧(v≤1114111→(zaO t v n).1≤1114111)
 | 0,v,n,h,hn =>by rw [zaH (by omega)];exact ⟨Nat.le_refl _,hn,fun h =>h⟩
 | k+1,v,n,h,hn =>by
  by_cases hc:n < t.size∧(n < 6∨bt t 2≠48)∧0≤zbM (bt t n)∧v*16+(zbM (bt t n)).toNat≤1114111
  ·rw [zcO hc]
   have:=zgd t k (v*16+(zbM (bt t n)).toNat) (n+1) (by omega) (by omega)
   exact ⟨by omega,this.2.1,fun _ =>this.2.2 hc.2.2.2⟩
  ·rw [zaH hc];exact ⟨Nat.le_refl _,hn,fun h =>h⟩
theorem zkh (t:ByteArray) (h:0 < t.size):1≤(zax t).2.1∧(zax t).2.1≤t.size:=by
 unfold zax
 by_cases hc:t.size < 2∨bt t 1≠43
 ·rw [if_pos hc];exact ⟨Nat.le_refl _,h⟩
 ·rw [if_neg hc]
  have:=zgd t t.size 0 2 (by omega) (by omega)
  split <;> exact ⟨by show 1≤(zaO t 0 2).2;omega,by show (zaO t 0 2).2≤t.size;omega⟩
theorem zjo (t:ByteArray) (h:0 < t.size):1≤(zcV t).2.1∧(zcV t).2.1≤t.size:=by
 have hz:=zfH t
 have hb:zaZ (tl1 t)≤(tl1 t).size:=(zbT _ (Nat.zero_le _)).2
 have hw:=zbC (tl1 t) 0
 unfold zcV
 split
 ·exact ⟨h,Nat.le_refl _⟩
 ·split
  ·exact ⟨Nat.le_refl _,h⟩
  ·split
   ·exact ⟨by show 1≤1+_;omega,by show 1+_≤_;omega⟩
   ·split
    ·exact ⟨h,Nat.le_refl _⟩
    ·have:=hw (by omega)
     split
     ·exact ⟨by show 1≤_+2;omega,by show _+2≤_;omega⟩
     ·exact ⟨by show 1≤1+_;omega,by show 1+_≤_;omega⟩
theorem zgl (t:ByteArray):zej t=true→2≤t.size:=fun h =>by
 have h2:[46,46] <+: t.data.toList:=List.isPrefixOf_iff_prefix.1 h
 have:=h2.length_le
 rw [Array.length_toList] at this
 exact this
theorem sgnV_le (t:ByteArray) (h:0 < t.size):(zck t).2.1≤t.size∧((zck t).2.2=true→1≤(zck t).2.1):=by
 unfold zck
 repeat' split
 all_goals first
  | exact ⟨h,fun _ =>Nat.le_refl _⟩
  | exact ⟨zgl t (by assumption),fun _ =>by decide⟩
  | exact ⟨h,fun e =>by cases e⟩
  | exact ⟨Nat.zero_le _,fun e =>by cases e⟩
theorem zb0 (t:ByteArray) (h:0 < t.size):(zac t).n≤t.size∧((zac t).ok=true→1≤(zac t).n):=by
 unfold zac
 split
 ·rename_i hs
  have h1:=zdm t
  refine ⟨h1.1,fun _ =>?_⟩
  show 1≤zao t
  unfold zao
  rw [if_neg (fun q =>q.elim (by omega) (fun q =>by rw [hs] at q;cases q))]
  exact (zbT _ (by omega)).1
 ·split
  ·have:=zeK t t.size (bt t 0 - 48) 1 (by omega) (by omega)
   exact ⟨this.2.1,fun _ =>this.1⟩
  ·split
   ·have:=zkh t h;exact ⟨this.2,fun _ =>this.1⟩
   ·split
    ·have:=zjo t h;exact ⟨this.2,fun _ =>this.1⟩
    ·exact sgnV_le t h
structure W8 where
 k:Int
 S:ByteArray
 r:Int
 n:Int
 b:Int
 l:Int
 c:Int
 e:Int
def ze1 (x:W8):List Value := [.int .i64 x.k,.string x.S,.int .i32 x.r,.int .i64 x.n,.int .i64 x.b,.int .i64 x.l,.int .i64 x.c,.int .i64 x.e]
def encW (zs:List W8):List Value:=zs.flatMap ze1
theorem zgj (x:W8) (zs:List W8):encW (x::zs)=ze1 x++encW zs:=rfl
theorem zjJ (zs:List W8):(encW zs).length=zs.length*8:=by
 induction zs with
 | nil =>rfl
 | cons x zs ih =>rw [zgj,List.length_append,ih,List.length_cons];show 8+_=_;omega
theorem encW_at (zs:List W8) (j:Nat) (x:W8) (h:zs[j]?=some x):∀ i u,(ze1 x)[i]?=some u→(encW zs)[j*8+i]?=some u:=by
 induction zs generalizing j with
 | nil =>simp at h
 | cons y zs ih =>
  intro i u hu
  have hi:i < 8:=(List.getElem?_eq_some_iff.1 hu).1
  cases j with
  | zero =>
   obtain rfl:y=x:=by simpa using h
   rw [zgj,Nat.zero_mul,Nat.zero_add,List.getElem?_append_left (by exact hi)]
   exact hu
  | succ j =>
   have h':zs[j]?=some x:=by simpa using h
   rw [zgj,List.getElem?_append_right (by show 8≤_;omega),show (j+1)*8+i - (ze1 y).length=j*8+i by show (j+1)*8+i - 8=_;omega]
   exact ih j h' i u hu
def w8 (x:Wd):W8:=⟨x.v.kind,x.v.S,x.v.R,x.v.N,x.b,x.l,x.c,x.e⟩
theorem encW_ws (ws:List Wd):encW (ws.map w8)=zgA ws:=by
 unfold encW zgA
 rw [List.flatMap_map]
 rfl
def RowW (W:World) (a:Option Addr) (zs:List W8):Prop:=0 < zs.length→∃ g,a=some ⟨g,0,none⟩∧g < W.heap.size∧∀ j x,zs[j]?=some x→∀ i u,(ze1 x)[i]?=some u→W.cell? ⟨g,j*8+i,none⟩=some u
theorem own_rowW {W:World} {base n:Nat} {v:Value} {zs:List W8} (h:W.ownsRow base 147 8 v n (encW zs)):∃ a c,v=.slice a zs.length c∧RowW W a zs∧n=zs.length∧zs.length≤c:=by
 obtain ⟨hl,h⟩:=h
 rw [zjJ] at hl
 have hn:n=zs.length:=by omega
 subst hn
 rcases h with ⟨rfl,h0⟩ | ⟨g,cap,cur,rfl,hb,hg,h1,h2,h3,h4⟩
 ·exact ⟨none,0,by rw [h0],fun h =>by omega,rfl,by omega⟩
 ·refine ⟨_,cap,rfl,fun h0 =>⟨g,rfl,(Array.getElem?_eq_some_iff.1 hg).1,fun j x hj i u hu =>?_⟩,rfl,h1⟩
  have hbk:Blk W g cur 147:=hg
  have e:=encW_at zs j x hj i u hu
  rw [← h4] at e
  have hjl:=(List.getElem?_eq_some_iff.1 hj).1
  have hil:i < 8:=(List.getElem?_eq_some_iff.1 hu).1
  rw [List.getElem?_take,if_pos (by omega)] at e
  rw [Blk.cell hbk]
  simpa using e
theorem zda {B:Nat} {a w:World} (h:Below B a w) (n:Nat):Below B a (w.drewN n):=h.trans ⟨rfl,rfl,rfl,Nat.le_refl _,fun _ _ =>rfl⟩
structure Rf where
 b:Int
 l:Int
 c:Int
 why:Int
def zb4 (x:Rf):Array Value:=#[.int .i64 x.b,.int .i64 x.l,.int .i64 x.c,.int .i64 x.why]
def RefAt (W:World) (R:Nat) (v:Value):Option Rf→Prop
 | none =>v=.pointer none
 | some x => ∃ F,v=.pointer (some ⟨F,0,none⟩)∧R < F∧Blk W F (zb4 x) 80
def WordsAt (W:World) (g:Nat) (ws:List W8):Prop := ∀ j x,ws[j]?=some x→∀ i u,(ze1 x)[i]?=some u→W.cell? ⟨g,8*j+i,none⟩=some u
structure RdAt (W:World) (R Tx g:Nat) (ws:List W8) (k:Nat) (bad:Option Rf):Prop where
 kn:k≤ws.length
 nmax:ws.length≤1000000
 blk:∃ a c v,Blk W R #[.slice a (ws.length - k) c,.pointer (some ⟨Tx,0,none⟩),v] 87∧(k < ws.length→a=some ⟨g,8*k,none⟩)∧ws.length - k≤c∧RefAt W R v bad
 words:WordsAt W g ws
 gR:g≠R
def zaJ (ws:List W8) (k:Nat) (bad:Option Rf) (kind:Int):Bool:=match bad,ws[k]? with
 | none,some x =>x.k == kind
 | _,_ =>false
theorem WordsAt.first {W:World} {g:Nat} {ws:List W8} (h:WordsAt W g ws) {k:Nat} {x:W8} (hx:ws[k]?=some x):W.cell? ⟨g,8*k,none⟩=some (.int .i64 x.k):=h k x hx 0 _ rfl
set_option maxRecDepth 100000 in
set_option maxHeartbeats 4000000 in
theorem zfI (R Tx g:Nat) (ws:List W8) (k:Nat) (bad:Option Rf) (kind:Int) (W:World) (h:RdAt W R Tx g ws k bad) :
  Calls Tryz.prog 119 #[.pointer (some ⟨R,0,none⟩),.int .i64 kind] W fun e w' =>e=.returned (.bool (zaJ ws k bad kind))∧w'=W:=by
 obtain ⟨a,c,v,hb,ha,hc,hv⟩:=h.blk
 have hw:=h.words
 have hkn:=h.kn
 have hnm:=h.nmax
 have c0:=hb.cell 0
 have c2:=hb.cell 2
 clear h hb
 go_enter Tryz.func119,Tryz.ntmps119
 cases bad with
 | some x =>
  obtain ⟨F,rfl,_,hF⟩:=hv
  clear hF
  go_wp2_with fail
  go_ret
  exact ⟨rfl,rfl⟩
 | none =>
  subst hv
  cases hx:ws[k]? with
  | none =>
   have hk:ws.length - k=0:=by have:=List.getElem?_eq_none_iff.1 hx;omega
   rw [hk] at c0
   have HE:=kz (show zaJ ws k none kind=false by simp only [zaJ,hx])
   clear hx hk hkn hc ha hw
   go_wp2_with fail
   go_ret
   exact ⟨by rw [oz HE];rfl,rfl⟩
  | some x =>
   have hk:=(List.getElem?_eq_some_iff.1 hx).1
   obtain rfl:=ha hk
   have w0:=hw.first hx
   have hpos:(0:Int) < ((ws.length - k:Nat):Int):=by omega
   have HE:=kz (show zaJ ws k none kind=(x.k == kind) by simp only [zaJ,hx])
   obtain ⟨m,hm⟩:∃ m,m=ws.length - k:=⟨_,rfl⟩
   rw [← hm] at c0 hpos
   clear hx ha hw hm hc hkn hk
   go_wp2_with fail
   go_ret
   exact ⟨by rw [oz HE];rfl,rfl⟩
end Go.Proofs.YtmdgejgokoadlaaGreatDoor
