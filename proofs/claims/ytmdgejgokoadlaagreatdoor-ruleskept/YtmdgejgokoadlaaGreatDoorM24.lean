/- Texts of this claim, one behind the other. -/
import Derived.Test.YtmdgejgokoadlaaGreatDoorM23
/- A sequence's first wrong byte: plain mathematics. -/
namespace Go.Proofs.YtmdgejgokoadlaaGreatDoor
open Go.RowKit Go.Shelf
open Go.Lib (decode_at)
set_option linter.unusedVariables false
def zdp (t:ByteArray) (k:Nat):Bool:=decide (k < t.size∧(if k=1 then (zay (bt t 0)).1 else 128)≤bt t k∧bt t k≤(if k=1 then (zay (bt t 0)).2 else 191))
theorem zbI {t:ByteArray} {k:Nat}:zdp t k=true ↔ k < t.size∧(if k=1 then (zay (bt t 0)).1 else 128)≤bt t k∧bt t k≤(if k=1 then (zay (bt t 0)).2 else 191):=by simp [zdp]
def zbD (t:ByteArray):Nat × Nat × Bool:=if t.size=0 then (0,0,false) else if zbe t 0=true then (0,zaZ t,false) else (rn t 0,wd t 0,true)
theorem zeE (c:Nat) (hs:(zay c).1≠0):128≤(zay c).1∧(zay c).2≤191∧(zay c).1≤(zay c).2∧194≤c∧c < 245∧(((zay c).1≤128∧128≤(zay c).2)∨((zay c).1≤160∧160≤(zay c).2)):=by
 rcases zep _ hs with ⟨a,b,e⟩ | ⟨a,e⟩ | ⟨a,e⟩ | ⟨a,e⟩ | ⟨a,e⟩ | ⟨a,b,e⟩ | ⟨a,e⟩ <;> rw [e] <;> simp only [] <;> omega
theorem wdN (n b0 b1 b2 b3:Nat) (hn:4≤n) (h1:b1 < 256) (h2:b2 < 256) (h3:b3 < 256) (hs:(zay b0).1≠0):(Lib.decodeN n b0 b1 b2 b3).2=if (zay b0).1≤b1∧b1≤(zay b0).2∧(3≤zcb b0→128≤b2∧b2≤191)∧(4≤zcb b0→128≤b3∧b3≤191) then zcb b0 else 1:=by
 rw [zd6 n b0 b1 b2 b3 (by omega) h1 h2 h3 hs]
 have hz:=zbW b0
 generalize (zay b0).1=lo at *
 generalize (zay b0).2=hi at *
 generalize zcb b0=z at *
 unfold Lib.slowN
 repeat' split
 all_goals first | rfl | (exfalso;omega) | (dsimp only;omega)
theorem zdD (u x:ByteArray) (hu:1≤u.size) (hx:x.size=3):wd (u++x) 0=(Lib.decodeN (u.size+3) (bt u 0) (if 1 < u.size then bt u 1 else bt x (1 - u.size)) (if 2 < u.size then bt u 2 else bt x (2 - u.size)) (if 3 < u.size then bt u 3 else bt x (3 - u.size))).2:=by
 unfold wd
 rw [decode_at]
 have hz:(u++x).size - 0=u.size+3:=by rw [ByteArray.size_append,hx];rfl
 have hb:∀ i,bt (u++x) i=if i < u.size then bt u i else bt x (i - u.size):=fun i =>by
  unfold bt
  rw [zef]
  split <;> rfl
 rw [hz]
 show (Lib.decodeN (u.size+3) (bt (u++x) 0) (bt (u++x) (0+1)) (bt (u++x) (0+2)) (bt (u++x) (0+3))).2=_
 rw [hb,hb,hb,hb,if_pos (by omega)]
theorem zdK (t:ByteArray) (m i:Nat) (h:i < m) (hm:m≤t.size):bt (t.extract 0 m) i=bt t i:=by
 unfold bt
 rw [zbt t 0 m i (by omega) hm,Nat.zero_add]
theorem begB_none (t:ByteArray) (m:Nat) (h1:1≤m) (hm:m≤t.size) (hs:(zay (bt t 0)).1=0):zgB (t.extract 0 m)=false:=by
 have hz:(t.extract 0 m).size=m:=by rw [ByteArray.size_extract];omega
 have hw:∀ x:ByteArray,x.size=3→wd (t.extract 0 m++x) 0=1:=fun x hx =>by
  rw [zdD _ x (by omega) hx,zdK t m 0 (by omega) hm]
  by_cases hb:bt t 0 < 128
  ·unfold Lib.decodeN;rw [if_pos hb]
  ·rw [zfA _ _ _ _ _ (by omega) (zaX t 0) hs]
 unfold zgB
 rw [hw zdM rfl,hw zdL rfl,hz,decide_eq_false (by omega)]
 rfl
theorem wd_one (t x:ByteArray) (h:1≤t.size) (hx:x.size=3):wd (t.extract 0 1++x) 0=(Lib.decodeN 4 (bt t 0) (bt x 0) (bt x 1) (bt x 2)).2:=by
 have hz:(t.extract 0 1).size=1:=by rw [ByteArray.size_extract];omega
 rw [zdD _ x (by omega) hx,hz,zdK t 1 0 (by omega) h]
 rfl
theorem wd_two (t x:ByteArray) (h:2≤t.size) (hx:x.size=3):wd (t.extract 0 2++x) 0=(Lib.decodeN 5 (bt t 0) (bt t 1) (bt x 0) (bt x 1)).2:=by
 have hz:(t.extract 0 2).size=2:=by rw [ByteArray.size_extract];omega
 rw [zdD _ x (by omega) hx,hz,zdK t 2 0 (by omega) h,if_pos (by decide),zdK t 2 1 (by omega) h]
 rfl
theorem zj0 (t x:ByteArray) (h:3≤t.size) (hx:x.size=3):wd (t.extract 0 3++x) 0=(Lib.decodeN 6 (bt t 0) (bt t 1) (bt t 2) (bt x 0)).2:=by
 have hz:(t.extract 0 3).size=3:=by rw [ByteArray.size_extract];omega
 rw [zdD _ x (by omega) hx,hz,zdK t 3 0 (by omega) h,if_pos (by decide),zdK t 3 1 (by omega) h,if_pos (by decide),zdK t 3 2 (by omega) h]
 rfl
theorem zfQ (u:ByteArray):zgB u=true ↔ u.size < wd (u++zdM) 0∨u.size < wd (u++zdL) 0:=by unfold zgB;simp
theorem beg_1 {lo hi z:Nat} (hz:z=2∨z=3∨z=4) (hq:(lo≤128∧128≤hi)∨(lo≤160∧160≤hi)):(1 < (if lo≤128∧128≤hi∧(3≤z→128≤128∧128≤191)∧(4≤z→128≤128∧128≤191) then z else 1)∨1 < (if lo≤160∧160≤hi∧(3≤z→128≤128∧128≤191)∧(4≤z→128≤128∧128≤191) then z else 1)):=by
 rcases hq with q | q
 ·left;rw [if_pos ⟨q.1,q.2,fun _ =>by decide,fun _ =>by decide⟩];omega
 ·right;rw [if_pos ⟨q.1,q.2,fun _ =>by decide,fun _ =>by decide⟩];omega
theorem beg_2 {lo hi z b1:Nat} (hz:z=2∨z=3∨z=4):(2 < (if lo≤b1∧b1≤hi∧(3≤z→128≤128∧128≤191)∧(4≤z→128≤128∧128≤191) then z else 1)∨2 < (if lo≤b1∧b1≤hi∧(3≤z→128≤160∧160≤191)∧(4≤z→128≤128∧128≤191) then z else 1)) ↔ 2 < z∧lo≤b1∧b1≤hi:=by
 constructor
 ·intro h
  rcases h with h | h <;> (split at h <;> omega)
 ·intro h
  left;rw [if_pos ⟨h.2.1,h.2.2,fun _ =>by decide,fun _ =>by decide⟩];exact h.1
theorem beg_3 {lo hi z b1 b2:Nat} (hz:z=2∨z=3∨z=4):(3 < (if lo≤b1∧b1≤hi∧(3≤z→128≤b2∧b2≤191)∧(4≤z→128≤128∧128≤191) then z else 1)∨3 < (if lo≤b1∧b1≤hi∧(3≤z→128≤b2∧b2≤191)∧(4≤z→128≤160∧160≤191) then z else 1)) ↔ 3 < z∧(lo≤b1∧b1≤hi)∧128≤b2∧b2≤191:=by
 constructor
 ·intro h
  rcases h with h | h <;> (split at h <;> omega)
 ·intro h
  left;rw [if_pos ⟨h.2.1.1,h.2.1.2,fun _ =>h.2.2,fun _ =>by decide⟩];exact h.1
theorem zky (t:ByteArray):zdp t 1=true ↔ 1 < t.size∧(zay (bt t 0)).1≤bt t 1∧bt t 1≤(zay (bt t 0)).2:=by rw [zbI,if_pos rfl,if_pos rfl]
theorem good_2 (t:ByteArray):zdp t 2=true ↔ 2 < t.size∧128≤bt t 2∧bt t 2≤191:=by rw [zbI,if_neg (by decide),if_neg (by decide)]
theorem begB_one (t:ByteArray) (hm:1≤t.size) (hs:(zay (bt t 0)).1≠0):zgB (t.extract 0 1)=true:=by
 have hz:(t.extract 0 1).size=1:=by rw [ByteArray.size_extract];omega
 rw [zfQ,hz,wd_one t zdM hm rfl,wd_one t zdL hm rfl,wdN 4 _ _ _ _ (by decide) (by decide) (by decide) (by decide) hs,wdN 4 _ _ _ _ (by decide) (by decide) (by decide) (by decide) hs]
 exact beg_1 (zbW _) (zeE _ hs).2.2.2.2.2
theorem begB_two (t:ByteArray) (hm:2≤t.size) (hs:(zay (bt t 0)).1≠0):zgB (t.extract 0 2)=true ↔ 2 < zcb (bt t 0)∧(zay (bt t 0)).1≤bt t 1∧bt t 1≤(zay (bt t 0)).2:=by
 have hz:(t.extract 0 2).size=2:=by rw [ByteArray.size_extract];omega
 rw [zfQ,hz,wd_two t zdM hm rfl,wd_two t zdL hm rfl,wdN 5 _ _ _ _ (by decide) (zaX t 1) (by decide) (by decide) hs,wdN 5 _ _ _ _ (by decide) (zaX t 1) (by decide) (by decide) hs]
 exact beg_2 (zbW _)
theorem begB_three (t:ByteArray) (hm:3≤t.size) (hs:(zay (bt t 0)).1≠0):zgB (t.extract 0 3)=true ↔ 3 < zcb (bt t 0)∧((zay (bt t 0)).1≤bt t 1∧bt t 1≤(zay (bt t 0)).2)∧128≤bt t 2∧bt t 2≤191:=by
 have hz:(t.extract 0 3).size=3:=by rw [ByteArray.size_extract];omega
 rw [zfQ,hz,zj0 t zdM hm rfl,zj0 t zdL hm rfl,wdN 6 _ _ _ _ (by decide) (zaX t 1) (zaX t 2) (by decide) hs,wdN 6 _ _ _ _ (by decide) (zaX t 1) (zaX t 2) (by decide) hs]
 exact beg_3 (zbW _)
theorem zi0 (t:ByteArray) (m:Nat) (h1:1≤m) (hm:m≤t.size) (hs:(zay (bt t 0)).1≠0):zgB (t.extract 0 m)=true ↔ m < zcb (bt t 0)∧∀ j,1≤j→j < m→zdp t j=true:=by
 have hsz:=zbW (bt t 0)
 rcases Nat.lt_or_ge m 4 with hm4 | hm4
 ·have hm3:m=1∨m=2∨m=3:=by omega
  rcases hm3 with rfl | rfl | rfl
  ·exact ⟨fun _ =>⟨by omega,fun j h1 h2 =>by omega⟩,fun _ =>begB_one t hm hs⟩
  ·rw [begB_two t hm hs]
   constructor
   ·intro h
    refine ⟨h.1,fun j h1 h2 =>?_⟩
    obtain rfl:j=1:=by omega
    exact (zky t).2 ⟨by omega,h.2⟩
   ·intro h
    exact ⟨h.1,((zky t).1 (h.2 1 (by omega) (by omega))).2⟩
  ·rw [begB_three t hm hs]
   constructor
   ·intro h
    refine ⟨h.1,fun j h1 h2 =>?_⟩
    have:j=1∨j=2:=by omega
    rcases this with rfl | rfl
    ·exact (zky t).2 ⟨by omega,h.2.1⟩
    ·exact (good_2 t).2 ⟨by omega,h.2.2⟩
   ·intro h
    exact ⟨h.1,((zky t).1 (h.2 1 (by omega) (by omega))).2,((good_2 t).1 (h.2 2 (by omega) (by omega))).2⟩
 ·have hz:(t.extract 0 m).size=m:=by rw [ByteArray.size_extract];omega
  constructor
  ·intro h
   rw [zfQ,hz] at h
   have a:=ze0 (t.extract 0 m++zdM) 0
   have b:=ze0 (t.extract 0 m++zdL) 0
   omega
  ·intro h
   omega
theorem zey (t:ByteArray) (h:0 < t.size) (hs:(zay (bt t 0)).1=0):zaZ t=0:=by
 unfold zaZ
 exact zbb (begB_none t 1 (by omega) (by omega) hs)
theorem zex (t:ByteArray) (hs:(zay (bt t 0)).1≠0) (k:Nat) (h1:1≤k) (hk:k < zcb (bt t 0)) (hg:∀ j,1≤j→j < k→zdp t j=true) (hb:zdp t k=false) (h0:0 < t.size):zaZ t=k:=by
 unfold zaZ
 have hkt:k≤t.size:=by
  rcases Nat.lt_or_ge 1 k with q | q
  ·have:=(zbI.1 (hg (k - 1) (by omega) (by omega))).1;omega
  ·omega
 rw [zcG (p:=fun n =>zgB (t.extract 0 (n+1))) (hi:=t.size) (m:=k) k 0 (by omega) hkt (fun j _ hj =>(zi0 t (j+1) (by omega) (by omega) hs).2 ⟨by omega,fun i h1 h2 =>hg i h1 (by omega)⟩)]
 by_cases hlt:k < t.size
 ·refine zbb ?_
  rw [Bool.eq_false_iff]
  intro q
  have:=(zi0 t (k+1) (by omega) (by omega) hs).1 q
  have:=this.2 k h1 (by omega)
  rw [hb] at this
  cases this
 ·exact zaC hlt
theorem zh3 {t:ByteArray} (h:0 < t.size) (e:seqV t=(0,0)):zbe t 0=true:=by
 unfold seqV at e
 by_cases q:rn t 0=65533∧wd t 0=1
 ·unfold zbe;exact decide_eq_true q
 ·rw [if_neg (by omega),Prod.mk.injEq] at e
  have:=zbh t 0
  omega
theorem zh4 {t:ByteArray} {a b:Nat} (h:0 < t.size) (ha:a≠0) (e:seqV t=((a:Int),(b:Int))):zbe t 0=false∧wd t 0=a∧rn t 0=b:=by
 unfold seqV at e
 by_cases q:rn t 0=65533∧wd t 0=1
 ·rw [if_pos (.inr q),Prod.mk.injEq] at e
  omega
 ·rw [if_neg (by omega),Prod.mk.injEq] at e
  exact ⟨by unfold zbe;exact decide_eq_false q,by omega,by omega⟩
theorem seq4_end {t:ByteArray} (h:¬ 0 < t.size):zbD t=(0,0,false):=by unfold zbD;rw [if_pos (by omega)]
theorem zk6 {t:ByteArray} (h:0 < t.size) (hb:bt t 0 < 128):zbD t=(bt t 0,1,true):=by
 obtain ⟨h1,h2,h3⟩:=zh4 (a:=1) h (by decide) (zk5 t h hb)
 unfold zbD
 rw [if_neg (by omega),if_neg (by rw [h1];decide),h2,h3]
theorem seq4_none {t:ByteArray} (h:0 < t.size) (hb:128≤bt t 0) (hs:(zay (bt t 0)).1=0):zbD t=(0,0,false):=by
 have h1:=zh3 h (seqV_none t h hb hs)
 unfold zbD
 rw [if_neg (by omega),if_pos h1,zey t h hs]
theorem seq4_bad {t:ByteArray} (h:0 < t.size) (hs:(zay (bt t 0)).1≠0) (k:Nat) (h1:1≤k) (hk:k < zcb (bt t 0)) (hg:∀ j,1≤j→j < k→zdp t j=true) (hb:zdp t k=false):zbD t=(0,k,false):=by
 have hq:=zeE _ hs
 have hx:t.size < 2∨bt t 1 < (zay (bt t 0)).1∨(zay (bt t 0)).2 < bt t 1∨∃ k,1≤k∧k < zcb (bt t 0)∧(t.size≤k∨bt t k < 128∨191 < bt t k):=by
  have hn:¬ (k < t.size∧(if k=1 then (zay (bt t 0)).1 else 128)≤bt t k∧bt t k≤(if k=1 then (zay (bt t 0)).2 else 191)):=fun q =>by rw [zbI.2 q] at hb;cases hb
  by_cases e:k=1
  ·subst e
   rw [if_pos rfl,if_pos rfl] at hn
   omega
  ·rw [if_neg e,if_neg e] at hn
   exact .inr (.inr (.inr ⟨k,h1,hk,by omega⟩))
 have hz:=zh3 h (seqV_bad t h (by omega) hs hx)
 unfold zbD
 rw [if_neg (by omega),if_pos hz,zex t hs k h1 hk hg hb h]
theorem zh5 {t:ByteArray} (h:0 < t.size) (hs:(zay (bt t 0)).1≠0) (hg:∀ j,1≤j→j < zcb (bt t 0)→zdp t j=true):zbD t=(zek t (zcb (bt t 0)),zcb (bt t 0),true):=by
 have hq:=zeE _ hs
 have hsz:=zbW (bt t 0)
 have g1:=zbI.1 (hg 1 (by omega) (by omega))
 rw [if_pos rfl,if_pos rfl] at g1
 have hgo:Goes t (zcb (bt t 0)):=fun j h1 h2 =>by
  have:=zbI.1 (hg j h1 h2)
  by_cases e:j=1
  ·subst e;omega
  ·rw [if_neg e,if_neg e] at this;exact this
 obtain ⟨q1,q2,q3⟩:=zh4 h (by omega) (seqV_good t h (by omega) hs g1.2.1 g1.2.2 hgo)
 unfold zbD
 rw [if_neg (by omega),if_neg (by rw [q1];decide),q2,q3]
end Go.Proofs.YtmdgejgokoadlaaGreatDoor
namespace Go.Proofs.YtmdgejgokoadlaaGreatDoor
open Go.RowKit Go.Shelf
set_option linter.unusedVariables false
def zbF (c:Nat):Nat × Nat × Nat × Bool:=if c < 128 then (0,0,0,true) else if (zay c).1=0 then (0,0,0,false) else (zcb c - 1,(zay c).1,(zay c).2,true)
set_option maxRecDepth 100000 in
set_option maxHeartbeats 4000000 in
theorem zkk (c:Nat) (hc:c < 256) (w:World):Calls Tryz.prog 132 #[.int .u8 c] w fun e w' =>e=.returned (.tuple #[.int .i64 (zbF c).1,.int .u8 (zbF c).2.1,.int .u8 (zbF c).2.2.1,.bool (zbF c).2.2.2])∧w'=w:=by
 have hc:(c < 128∧zbF c=(0,0,0,true))∨(128≤c∧c < 194∧zbF c=(0,0,0,false))∨(194≤c∧c≤223∧zbF c=(1,128,191,true))∨(c=224∧zbF c=(2,160,191,true))∨(225≤c∧c≤236∧zbF c=(2,128,191,true))∨(c=237∧zbF c=(2,128,159,true))∨(c=238∧zbF c=(2,128,191,true))∨(c=239∧zbF c=(2,128,191,true)) ∨
   (c=240∧zbF c=(3,144,191,true))∨(241≤c∧c≤243∧zbF c=(3,128,191,true))∨(c=244∧zbF c=(3,128,143,true))∨(245≤c∧zbF c=(0,0,0,false)):=by
  unfold zbF zay zcb
  repeat' split
  all_goals simp_all
  all_goals omega
 rcases hc with ⟨h,e⟩ | ⟨h,h',e⟩ | ⟨h,h',e⟩ | ⟨rfl,e⟩ | ⟨h,h',e⟩ | ⟨rfl,e⟩ | ⟨rfl,e⟩ | ⟨rfl,e⟩ | ⟨rfl,e⟩ | ⟨h,h',e⟩ | ⟨rfl,e⟩ | ⟨h,e⟩
 all_goals
  rw [e];clear e
  go_enter Tryz.func132,Tryz.ntmps132
  go_wp2
  exact bodyPost_ret (v := .tuple #[_,_,_,_]) (by simp [results,Tryz.results132,go_sem];first | done | exact ⟨rfl,rfl,rfl,rfl⟩) rfl ⟨rfl,rfl⟩
theorem and31:∀ b:Nat,b < 256→bits BinOp.and IntKind.i32 (b:Int) 31=((b % 32:Nat):Int):=by decide +kernel
theorem and15c:∀ b:Nat,b < 256→bits BinOp.and IntKind.i32 (b:Int) 15=((b % 16:Nat):Int):=by decide +kernel
theorem and7c:∀ b:Nat,b < 256→bits BinOp.and IntKind.i32 (b:Int) 7=((b % 8:Nat):Int):=by decide +kernel
theorem and63:∀ b:Nat,b < 256→bits BinOp.and IntKind.u8 (b:Int) 63=((b % 64:Nat):Int):=by decide +kernel
theorem step_add (A c:Nat) (hA:A < 33554432) (hc:c < 256):wrap32 (wrap32 ((A:Int)*64)+wrap32 (bits BinOp.and IntKind.u8 (c:Int) 63))=((A*64+c % 64:Nat):Int):=by
 rw [and63 c hc]
 unfold wrap32
 omega
abbrev seqR4 (a:Nat) (x:Nat × Nat × Bool):Value := .tuple #[.int .i32 x.1,.int .i64 ((a+x.2.1:Nat):Int),.bool x.2.2]
theorem zj6 (s:ByteArray) (a k:Nat) (h:a≤s.size):bt (rst s a) k=bt s (a+k):=by unfold bt;rw [zbN s a k h]
set_option maxRecDepth 100000 in
set_option maxHeartbeats 4000000 in
theorem zem (s:ByteArray) (hs:s.size≤1099511627776) (a:Nat) (ha:a≤1099511627776) (h:s.size≤a∨(a < s.size∧(bt s a < 128∨(128≤bt s a∧(zay (bt s a)).1=0)))) (w:World):Calls Tryz.prog 82 #[.string s,.int .i64 a] w fun e w' =>e=.returned (seqR4 a (zbD (rst s a)))∧w'=w:=by
 rcases h with h | ⟨h,hx⟩
 ·have HV:=kz (seq4_end (t:=rst s a) (by rw [zah];omega))
  have h':(s.size:Int)≤(a:Int):=by omega
  clear h
  go_enter Tryz.func82,Tryz.ntmps82
  go_wp2
  go_ret3
  exact ⟨by rw [oz HV];rfl,rfl⟩
 ·have h':¬ (s.size:Int)≤(a:Int):=by omega
  have hl:(a:Int) < (s.size:Int):=by omega
  have hgb:=zaz s a h
  have hb0:bt (rst s a) 0=bt s a:=zj6 s a 0 (by omega)
  have hpos:0 < (rst s a).size:=by rw [zah];omega
  have hlt:=zaX s a
  obtain ⟨b,eb⟩:∃ b,(s[a]'h).toNat=b:=⟨_,rfl⟩
  rw [hgb,eb] at hx hb0 hlt
  have HC:=kz (zkk b hlt)
  rcases hx with hx | ⟨hx,hs0⟩
  ·have HV:=kz (zk6 hpos (by rw [hb0];exact hx))
   rw [hb0] at HV
   have hn:zbF b=(0,0,0,true):=by unfold zbF;rw [if_pos hx]
   rw [hn] at HC
   clear hn hb0 hpos hgb
   go_enter Tryz.func82,Tryz.ntmps82
   go_wp2_with fail
   refine (oz HC _).mono ?_
   rintro e w1 ⟨rfl,rfl⟩
   go_wp2_with fail
   refine wp_loop_rounds 1 ?_
   rw [rounds_succ]
   go_wp2_with fail
   go_ret3
   exact ⟨by rw [oz HV];rfl,rfl⟩
  ·have HV:=kz (seq4_none hpos (by rw [hb0];exact hx) (by rw [hb0];exact hs0))
   have hn:zbF b=(0,0,0,false):=by unfold zbF;rw [if_neg (by omega),if_pos hs0]
   rw [hn] at HC
   clear hn hb0 hpos hgb
   go_enter Tryz.func82,Tryz.ntmps82
   go_wp2_with fail
   refine (oz HC _).mono ?_
   rintro e w1 ⟨rfl,rfl⟩
   go_wp2_with fail
   go_ret3
   exact ⟨by rw [oz HV];rfl,rfl⟩
set_option maxRecDepth 100000 in
set_option maxHeartbeats 8000000 in
theorem zhq (s:ByteArray) (hs:s.size≤1099511627776) (a:Nat) (ha:a < s.size) (hx:(zay (bt s a)).1≠0) (w:World):Calls Tryz.prog 82 #[.string s,.int .i64 a] w fun e w' =>e=.returned (seqR4 a (zbD (rst s a)))∧w'=w:=by
 have hb0:bt (rst s a) 0=bt s a:=zj6 s a 0 (by omega)
 have hpos:0 < (rst s a).size:=by rw [zah];omega
 have hq:=zeE _ hx
 have hGG:=zh5 hpos (by rw [hb0];exact hx)
 have hBB:=fun k h1 h2 h3 h4 =>seq4_bad hpos (by rw [hb0];exact hx) k h1 h2 h3 h4
 have hgo:∀ k,1≤k→zdp (rst s a) k=decide (a+k < s.size∧(if k=1 then (zay (bt s a)).1 else 128)≤bt s (a+k)∧bt s (a+k)≤(if k=1 then (zay (bt s a)).2 else 191)):=fun k hk =>by
  unfold zdp
  rw [hb0,zj6 s a k (by omega)]
  congr 1
  rw [zah]
  apply propext
  constructor <;> intro h <;> exact ⟨by omega,h.2⟩
 have hac:∀ k,1≤k→zek (rst s a) (k+1)=zek (rst s a) k*64+bt s (a+k) % 64:=fun k hk =>by rw [acc_step _ k hk,zj6 s a k (by omega)]
 have ha1:zek (rst s a) 1=zc5 (bt s a):=by show zc5 (bt (rst s a) 0)=_;rw [hb0]
 rw [hb0] at hGG hBB
 have hgb:=zaz s a ha
 have hlt:=zaX s a
 have hsz:(zcb (bt s a)=1+1∧zc5 (bt s a)=bt s a % 32)∨(zcb (bt s a)=2+1∧zc5 (bt s a)=bt s a % 16)∨(zcb (bt s a)=3+1∧zc5 (bt s a)=bt s a % 8):=by
  unfold zcb zc5;repeat' split
  all_goals simp
 have hnv:zbF (bt s a)=(zcb (bt s a) - 1,(zay (bt s a)).1,(zay (bt s a)).2,true):=by unfold zbF;rw [if_neg (by omega),if_neg hx]
 have HC:=kz (zkk (bt s a) hlt)
 rw [hnv] at HC
 obtain ⟨lo,hlo⟩:∃ lo,(zay (bt s a)).1=lo:=⟨_,rfl⟩
 obtain ⟨hi,hhi⟩:∃ hi,(zay (bt s a)).2=hi:=⟨_,rfl⟩
 obtain ⟨z,hz⟩:∃ z,zcb (bt s a)=z:=⟨_,rfl⟩
 rw [hlo,hhi] at hgo hq HC
 rw [hz] at hsz HC hGG hBB
 clear hnv hb0 hpos hx hlo hhi hz
 obtain ⟨b,eb⟩:∃ b,(s[a]'ha).toNat=b:=⟨_,rfl⟩
 rw [hgb,eb] at hlt HC ha1 hsz
 have h':¬ (s.size:Int)≤(a:Int):=by omega
 have hl:(a:Int) < (s.size:Int):=by omega
 have HGG:=kz hGG
 have HBB:=kz hBB
 have HGO:=kz hgo
 have HAC:=kz hac
 clear hGG hBB hgo hac hgb
 have hlo2:128≤lo∧lo≤191∧128≤hi∧hi≤191:=by omega
 clear hq
 obtain ⟨N,rfl⟩:∃ N,z=N+1:=⟨z - 1,by omega⟩
 have hN:1≤N∧N≤3:=by omega
 have HINI:Hz (zek (rst s a) 1 < 32):=kz (by omega)
 simp only [Nat.add_sub_cancel] at HC
 rcases hsz with ⟨hz,hl1⟩ | ⟨hz,hl1⟩ | ⟨hz,hl1⟩
 all_goals
  rw [hl1] at ha1
  have n1:((N:Int) == 1)=decide (N=1):=by cases hd:decide (N=1) <;> simp at hd ⊢ <;> omega
  have n2:((N:Int) == 2)=decide (N=2):=by cases hd:decide (N=2) <;> simp at hd ⊢ <;> omega
  have n3:((N:Int) == 3)=decide (N=3):=by cases hd:decide (N=3) <;> simp at hd ⊢ <;> omega
  first | rw [decide_eq_true (by omega)] at n1 | rw [decide_eq_false (by omega)] at n1
  first | rw [decide_eq_true (by omega)] at n2 | rw [decide_eq_false (by omega)] at n2
  first | rw [decide_eq_true (by omega)] at n3 | rw [decide_eq_false (by omega)] at n3
  have HA1:=kz ha1
  clear hl1 ha1 hz
  go_enter Tryz.func82,Tryz.ntmps82
  go_wp2_with fail
  refine (oz HC _).mono ?_
  rintro e w1 ⟨rfl,rfl⟩
  go_wp2_with fail
  first | rw [and31 b hlt] | rw [and15c b hlt] | rw [and7c b hlt]
  rw [← oz HA1]
  clear HA1 HC n1 n2 n3 hlo2 eb hlt hl h'
  go_loop [8,9,11,12] (fun l h r i => ∃ K L H:Nat,1≤K∧K≤N+1∧i=.int .i64 K∧r=.int .i32 (zek (rst s a) K)∧l=.int .u8 L∧h=.int .u8 H∧Hz (L=if K=1 then lo else 128)∧Hz (H=if K=1 then hi else 191)∧Hz (∀ j,1≤j→j < K→zdp (rst s a) j=true)∧Hz (zek (rst s a) K < bndOf K)) (fun _ _ _ i =>N+1 - (intOf i).toNat)
  case atStart =>exact ⟨1,lo,hi,by omega,by omega,rfl,rfl,rfl,rfl,kz rfl,kz rfl,kz (fun j h1 h2 =>by omega),HINI⟩
  case round =>
   obtain ⟨K,L,H,hK1,hK2,rfl,rfl,rfl,rfl,HL,HH,HGo,HA⟩:=hrel
   have hgK:=oz HGO K hK1
   rw [← oz HL, ← oz HH] at hgK
   by_cases hkn:K≤N
   ·have hkn':(K:Int)≤(N:Int):=by omega
    by_cases hks:a+K < s.size
    ·have hks':¬ (s.size:Int)≤(a:Int)+(K:Int):=by omega
     have hks2:(a:Int)+(K:Int) < (s.size:Int):=by omega
     have hgc:=zaz s (a+K) hks
     obtain ⟨c,ec⟩:∃ c,(s[a+K]'hks).toNat=c:=⟨_,rfl⟩
     rw [hgc,ec] at hgK
     by_cases hc1:c < L
     ·have hc1':decide (c < L)=true:=decide_eq_true hc1
      have HV:=kz (oz HBB K hK1 (by omega) (oz HGo) (by rw [hgK];exact decide_eq_false (by omega)))
      clear hgK hgc
      go_wp2_with fail
      go_ret3
      exact ⟨by rw [oz HV];rfl,rfl⟩
     ·have hc1':¬ c < L:=hc1
      by_cases hc2:H < c
      ·have hc2':decide (H < c)=true:=decide_eq_true hc2
       have HV:=kz (oz HBB K hK1 (by omega) (oz HGo) (by rw [hgK];exact decide_eq_false (by omega)))
       clear hgK hgc
       go_wp2_with fail
       go_ret3
       exact ⟨by rw [oz HV];rfl,rfl⟩
      ·have hst:=oz HAC K hK1
       have hcl:=zaX s (a+K)
       rw [hgc,ec] at hst hcl
       have hA:=oz HA
       have hgd:zdp (rst s a) K=true:=by rw [hgK];exact decide_eq_true (by omega)
       have HGD:=kz hgd
       generalize zek (rst s a) K=A at hst hA
       have HST:=kz hst
       have hbs:=bnd_step K A c hK1 (by omega) hA
       have HBS:=kz hbs
       have hcl':Hz (c < 256):=kz hcl
       clear hgK hgc hst HA hA hgd hbs hcl hN
       go_wp2_with fail
       go_round
       case rel =>
        refine ⟨K+1,128,191,by omega,by omega,by go_num, ?_,rfl,rfl,kz (by rw [if_neg (by omega)]),kz (by rw [if_neg (by omega)]),kz (fun j h1 h2 =>?_),kz ?_⟩
        ·rw [oz HST,step_add A c (oz HBS).1 (oz hcl')]
        ·by_cases e:j=K
         ·subst e;exact oz HGD
         ·exact oz HGo j h1 (by omega)
        ·rw [oz HST];exact (oz HBS).2
       case measure =>simp [intOf];omega
    ·have hks':(s.size:Int)≤(a:Int)+(K:Int):=by omega
     have HV:=kz (oz HBB K hK1 (by omega) (oz HGo) (by rw [hgK];exact decide_eq_false (by omega)))
     clear hgK
     go_wp2_with fail
     go_ret3
     exact ⟨by rw [oz HV];rfl,rfl⟩
   ·have hkn':¬ (K:Int)≤(N:Int):=by omega
    have hKN:K=N+1:=by omega
    have HV:Hz (zbD (rst s a)=(zek (rst s a) K,N+1,true)):=kz (by rw [hKN];exact oz HGG (fun j h1 h2 =>oz HGo j h1 (by omega)))
    clear hgK hKN
    go_wp2_with fail
    go_ret3
    exact ⟨by rw [oz HV];rfl,rfl⟩
theorem bd_pre (s:ByteArray) (i e:Nat) (h:bdB s i=true) (hi:i≤e) (he:e≤s.size):bdB (s.extract 0 e) i=true:=by
 rw [zdu] at h ⊢
 intro n h4 h1 hn
 have hz:(s.extract 0 e).size=e:=by rw [ByteArray.size_extract];omega
 by_cases hb:rn (s.extract 0 e) (i - n)=65533∧wd (s.extract 0 e) (i - n)=1
 ·omega
 ·have:=zci (s.extract 0 e) (s.extract e s.size) (i - n) (by omega) hb
  rw [zdt s e he] at this
  unfold wd
  rw [← this]
  exact h n h4 h1 hn
theorem zk9 (s:ByteArray) (i:Nat) (hi:i < s.size):zaA (s.extract i (i+wd s i))=[((rn s i:Nat):Int)]:=by
 have hr:=zbC s i hi
 have hp:=zbh s i
 have hz:(s.extract i (i+wd s i)).size=wd s i:=by rw [ByteArray.size_extract];omega
 have hcat:s.extract i (i+wd s i)++s.extract (i+wd s i) s.size=rst s i:=by
  rw [ByteArray.extract_append_extract]
  congr 1 <;> omega
 have hd:Utf8.decode (rst s i) 0=Utf8.decode s i:=zbO s i 0 (by omega)
 have h1:wd (rst s i) 0=wd s i:=by unfold wd;rw [hd]
 have e:=zdE (s.extract i (i+wd s i)) (s.extract (i+wd s i) s.size) 0 (by omega) (by rw [hcat,h1,hz];omega)
 rw [hcat,hd] at e
 have hw:wd (s.extract i (i+wd s i)) 0=wd s i:=by show (Utf8.decode _ 0).2=_;rw [e]
 have hs:zaw (s.extract i (i+wd s i))=[0]:=by
  unfold zaw
  obtain ⟨m,hm⟩:∃ m,(s.extract i (i+wd s i)).size=m+1:=⟨wd s i - 1,by omega⟩
  rw [hm,zas _ m 0 (by omega),hw,zav _ _ _ (by omega)]
 unfold zaA
 rw [hs]
 simp only [List.map_cons,List.map_nil]
 show [(((Utf8.decode (s.extract i (i+wd s i)) 0).1:Nat):Int)]=_
 rw [e]
theorem zla (s:ByteArray) (i:Nat) (h:bdB s i=true) (hi:i < s.size):zaA (s.extract 0 (i+wd s i))=zaA (s.extract 0 i)++[((rn s i:Nat):Int)]:=by
 have hr:=zbC s i hi
 have hz:(s.extract 0 (i+wd s i)).size=i+wd s i:=by rw [ByteArray.size_extract];omega
 rw [zc0 (s.extract 0 (i+wd s i)) i (by omega) (bd_pre s i _ h (by omega) hr),hz,zjG s _ _ (by omega),ext_mid,zk9 s i hi]
theorem zkQ (s:ByteArray) (i k:Nat) (h:bdB s i=true) (h1:i≤k) (h2:k < i+wd s i):zcU s k=i:=by
 have a:=zgn s k i h1 h
 have b:=zfP s k
 have c:=zkR s k
 by_cases e:zcU s k=i
 ·exact e
 ·rw [bd_within s i (zcU s k) (by omega) (by omega)] at c
  cases c
def zdI (s:ByteArray) (i:Nat):Nat × Nat:=lcR (1,1) (zaA (s.extract 0 i))
theorem zd1 (s:ByteArray):zdI s 0=(1,1):=by
 have:s.extract 0 0=ByteArray.empty:=za4 _ (by rw [ByteArray.size_extract];omega)
 unfold zdI
 rw [this]
 rfl
theorem lcAt_step (s:ByteArray) (i:Nat) (h:bdB s i=true) (hi:i < s.size):zdI s (i+wd s i)=if bt s i=10 then ((zdI s i).1+1,1) else ((zdI s i).1,(zdI s i).2+1):=by
 unfold zdI
 rw [zla s i h hi,zhE,zeO,lcR_nil]
 by_cases e:bt s i=10
 ·rw [if_pos e,if_pos (by have:=(zii s i).2 e;omega)]
 ·rw [if_neg e,if_neg (fun q =>e ((zii s i).1 (by omega)))]
theorem whL_at (s:ByteArray) (k:Nat):whL s k=zdI s (zcU s k):=whL_runes s k
theorem whL_bd (s:ByteArray) (k:Nat) (h:bdB s k=true):whL s k=zdI s k:=by rw [whL_at,zg5 s k h]
theorem seq4_wd (s:ByteArray) (i:Nat) (hi:i < s.size):(if (zbD (rst s i)).2.2=true then i+(zbD (rst s i)).2.1 else i+1)=i+wd s i:=by
 have hd:Utf8.decode (rst s i) 0=Utf8.decode s i:=zbO s i 0 (by omega)
 have hz:=zah s i
 by_cases hb:zbe (rst s i) 0=true
 ·have e:zbD (rst s i)=(0,zaZ (rst s i),false):=by unfold zbD;rw [if_neg (by omega),if_pos hb]
  rw [e,if_neg (fun q =>by cases q)]
  unfold zbe rn wd at hb
  rw [hd] at hb
  have:=of_decide_eq_true hb
  show i+1=i+(Utf8.decode s i).2
  omega
 ·have e:zbD (rst s i)=(rn (rst s i) 0,wd (rst s i) 0,true):=by unfold zbD;rw [if_neg (by omega),if_neg hb]
  rw [e,if_pos rfl]
  show i+(Utf8.decode (rst s i) 0).2=_
  rw [hd]
end Go.Proofs.YtmdgejgokoadlaaGreatDoor
