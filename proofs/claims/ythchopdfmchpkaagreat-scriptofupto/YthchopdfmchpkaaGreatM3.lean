/- Texts of this claim, one behind the other. -/
import Derived.Test.YthchopdfmchpkaaGreatM2
import Derived.Maps.OwnSet
import Derived.Lib.TrimUEq
namespace Go.Proofs.YthchopdfmchpkaaGreat
set_option linter.unusedVariables false
section
open Go.RowKit Go.Shelf
set_option maxRecDepth 100000
set_option maxHeartbeats 8000000
def scN (l:List (ByteArray × List (Int × Int))):Nat:=(l.map (fun x =>x.2.length+1)).foldr (· + ·) 0
def zdl (T:TV):Nat:=T.co.length+T.ma.length+T.pr.length+T.fo.length+T.lk.length+T.dr.length+T.al.length
def Jz (T:TV):Bool:=decide (6000 < zdl T+scN (T.sc.take 200)) || decide (100 < T.sc.length)
theorem zi1 (a b:List (ByteArray × List (Int × Int))):scN (a++b)=scN a+scN b:=by
 induction a with
 | nil =>show scN b=0+scN b;omega
 | cons x a ih =>show x.2.length+1+scN (a++b)=x.2.length+1+scN a+scN b;rw [ih];omega
theorem zik {n:Nat}:∀ (l:List (ByteArray × List (Int × Int))),(∀ x ∈ l,x.2.length≤n)→scN l≤l.length*(n+1)
 | [],_ =>Zn _
 | x::l,h =>by
  have h1:=h x (List.mem_cons_self ..);have h2:=zik l (fun y hy =>h y (List.mem_cons_of_mem _ hy));show x.2.length+1+scN l≤(l.length+1)*(n+1);rw [Nat.succ_mul];omega
theorem ze3:∀ (l:List (ByteArray × List (Int × Int))) (x:ByteArray × List (Int × Int)),x ∈ l→x.2.length≤scN l
 | [],x,h =>by cases h
 | y::l,x,h =>by
  show x.2.length≤y.2.length+1+scN l;rcases List.mem_cons.1 h with rfl | h
  ·omega
  ·have:=ze3 l x h;omega
structure TabB (T:TV):Prop where
 n0:T.sc.length≤1048576
 n1:T.co.length≤1048576
 n2:T.ma.length≤1048576
 n3:T.pr.length≤1048576
 n4:T.fo.length≤1048576
 n5:T.lk.length≤1048576
 n6:T.dr.length≤1048576
 n7:T.al.length≤1048576
 z0:∀ x ∈ T.sc,x.1.size≤1048576∧x.2.length≤1048576
 z2:∀ x ∈ T.ma, -9223372036854775808≤x.2∧x.2≤9223372036854775807
 z4:∀ x ∈ T.fo,x.2.size≤1048576
 z5:∀ x ∈ T.lk,x.2.size≤1048576
theorem TabB.ok {T:TV} (h:TabB T) (hl:Jz T=false):Jj T:=by
 unfold Jz at hl;rw [Bool.or_eq_false_iff] at hl;have h1:=of_decide_eq_false hl.1;have h2:=of_decide_eq_false hl.2;unfold zdl at h1;rw [List.take_of_length_le (by omega)] at h1;refine ⟨by omega,by omega,by omega,by omega,by omega,by omega,by omega,by omega,fun x hx =>⟨?_, ?_⟩,h.z2,fun x hx =>?_,fun x hx =>?_⟩
 ·have:=(h.z0 x hx).1;unfold maxLen;omega
 ·have:=ze3 T.sc x hx;omega
 ·have:=h.z4 x hx;unfold maxLen;omega
 ·have:=h.z5 x hx;unfold maxLen;omega
theorem zf4 (T:TV) (hT:TabB T) (a0 a1 a2 a3 a4 a5 a6 a7:Option Addr) (c0 c1 c2 c3 c4 c5 c6 c7:Nat) (us:List Value) (W:World) (hA:TabIn W T a0 a1 a2 a3 a4 a5 a6 a7 us) :
  Calls Tryz.prog 37 #[.agg (ze0 T a0 a1 a2 a3 a4 a5 a6 a7 c0 c1 c2 c3 c4 c5 c6 c7)] W fun e w' =>e=.returned (.bool (Jz T))∧Below W.heap.size W w':=by
 have hB0:Below W.heap.size W (W.alloc (.cells (ze0 T a0 a1 a2 a3 a4 a5 a6 a7 c0 c1 c2 c3 c4 c5 c6 c7) 31)):=(Below.refl _ W).alloc zD _;have bA:=Blk.new W (ze0 T a0 a1 a2 a3 a4 a5 a6 a7 c0 c1 c2 c3 c4 c5 c6 c7) 31;have HH:=kz (yB (hA.lower hB0) (yB hB0 bA));have HT:=kz hT;have HV:Hz (Jz T=(decide (6000 < zdl T+scN (T.sc.take 200)) || decide (100 < T.sc.length))):=kz rfl;have hn0:=hT.n0;have hn1:=hT.n1;have hn2:=hT.n2;have hn3:=hT.n3;have hn4:=hT.n4;have hn5:=hT.n5;have hn6:=hT.n6;have hn7:=hT.n7;generalize Jz T=LB at *;have z0:=bA.cell 0;have z1:=bA.cell 1;have z2:=bA.cell 2;have z3:=bA.cell 3;have z4:=bA.cell 4;have z5:=bA.cell 5;have z6:=bA.cell 6;have z7:=bA.cell 7;clear hA hB0 bA hT;unfold ze0 at *;go_enter Tryz.func37,Tryz.ntmps37;go_wp2_with fail
 generalize W.alloc _=w0 at *;have HN0:Hz ((T.co.length:Int)+T.ma.length+T.pr.length+T.fo.length+T.lk.length+T.dr.length+T.al.length=((zdl T+scN (T.sc.take 0):Nat):Int)):=kz (by unfold zdl;show _=((_+0:Nat):Int);omega);have hLN:zdl T≤7340032:=by unfold zdl;omega
 generalize (T.co.length:Int)+T.ma.length+T.pr.length+T.fo.length+T.lk.length+T.dr.length+T.al.length=S0 at *;clear hn1 hn2 hn3 hn4 hn5 hn6 hn7 z1 z2 z3 z4 z5 z6 z7;go_loopw [3,4] (fun n i wr => ∃ (k m q:Nat),k≤T.sc.length∧k≤200∧n=.int .i64 m∧i=.int .i64 k∧Hz (m=zdl T+scN (T.sc.take k))∧wr=w0.drewN q) (fun _ i _ =>200 - (intOf i).toNat)
 case atStart =>exact ⟨0,zdl T+scN (T.sc.take 0),0,by omega,by omega,by rw [oz HN0],rfl,kz rfl,rfl⟩
 case round =>
  obtain ⟨k,m,q,hk,hk200,rfl,rfl,HM,rfl⟩:=hrel;have hmle:m≤400000000:=by
   have h1:=zik (n:=1048576) (T.sc.take k) (fun x hx =>((oz HT).z0 x (List.mem_of_mem_take hx)).2);rw [List.length_take] at h1;have h2:=oz HM;have h3:min k T.sc.length*(1048576+1)≤200*1048577:=Nat.mul_le_mul (by omega) (by omega);omega
  by_cases hkn:k < T.sc.length
  ·by_cases hk2:k < 200
   ·obtain ⟨x,hx⟩:∃ x,T.sc[k]?=some x:=⟨_,qR hkn⟩;obtain ⟨u,hu⟩:∃ u,us[k]?=some u:=⟨_,qR (by rw [(oz HH).1.lu];exact hkn)⟩;obtain ⟨g,o,rfl,hg,hc⟩:=(oz HH).1.r0 (by rw [Zu _ _ (oz HH).1.lu];omega);obtain ⟨q1,d1,rfl,r1⟩:=(oz HH).1.rs k x u hx hu;have e1:w0.cell? ⟨g,o+k*2+1,none⟩=some (.slice q1 x.2.length d1):=by
     have h1:=hc (2*k+1) _ ((Zm T.sc us (oz HH).1.lu k).trans hu);rw [show o+(2*k+1)=o+k*2+1 by omega] at h1;exact h1
    have hx2:x.2.length≤1048576:=((oz HT).z0 x (YH hx)).2;have HM2:Hz (m+1+x.2.length=zdl T+scN (T.sc.take (k+1))):=kz (by
     rw [List.take_add_one,hx,zi1,oz HM];show _=_+(_+(x.2.length+1+0));omega)
    generalize x.2.length=xl at *;have k1:(k:Int) < (T.sc.length:Int):=by omega
    have k2:(k:Int) < 200:=by omega
    have k3:=Zp k
    clear hc hx hu r1;go_wp2_with fail
    exact ⟨⟨k+1,m+1+xl,q,by omega,by omega,by first | rfl | (congr 1;omega),by first | rfl | (congr 1;omega),HM2,rfl⟩,by simp [intOf];omega⟩
   ·have k1:(k:Int) < (T.sc.length:Int):=by omega
    have k2:¬ (k:Int) < 200:=by omega
    have HMV:Hz (LB=(decide (6000 < m) || decide (100 < T.sc.length))):=kz (by rw [oz HV,oz HM,show k=200 by omega]);clear HV HM;have HW:Hz (Below W.heap.size W (w0.drewN q)):=kz (J8 (oz HH).2.1 q);by_cases q1:6000 < m
    ·have k4:(6000:Int) < (m:Int):=by omega
     go_wp2_with fail
     go_ret;exact ⟨by rw [oz HMV,JS q1];rfl,oz HW⟩
    ·have k4:¬ (6000:Int) < (m:Int):=by omega
     by_cases q2:100 < T.sc.length
     ·have k5:(100:Int) < (T.sc.length:Int):=by omega
      go_wp2_with fail
      go_ret;exact ⟨by rw [oz HMV,Zq q1,JS q2];first | rfl | simp [k5],oz HW⟩
     ·exact absurd (show 100 < T.sc.length by omega) q2
  ·have k1:¬ (k:Int) < (T.sc.length:Int):=by omega
   have HMV:Hz (LB=(decide (6000 < m) || decide (100 < T.sc.length))):=kz (by rw [oz HV,oz HM,List.take_of_length_le (show T.sc.length≤k by omega),List.take_of_length_le (show T.sc.length≤200 by omega)]);clear HV HM;have HW:Hz (Below W.heap.size W (w0.drewN q)):=kz (J8 (oz HH).2.1 q);by_cases q1:6000 < m
   ·have k4:(6000:Int) < (m:Int):=by omega
    go_wp2_with fail
    go_ret;exact ⟨by rw [oz HMV,JS q1];rfl,oz HW⟩
   ·have k4:¬ (6000:Int) < (m:Int):=by omega
    by_cases q2:100 < T.sc.length
    ·have k5:(100:Int) < (T.sc.length:Int):=by omega
     go_wp2_with fail
     go_ret;exact ⟨by rw [oz HMV,Zq q1,JS q2];first | rfl | simp [k5],oz HW⟩
    ·have k5:¬ (100:Int) < (T.sc.length:Int):=by omega
     go_wp2_with fail
     go_ret;exact ⟨by rw [oz HMV,Zq q1,Zq q2];first | rfl | simp [k5],oz HW⟩
def zf (r:Int):Int:=if 57344≤r then r - 2048 else if 55296 < r then 55296 else r
def zU (n:Int):Int:=if 55296≤n then n+2048 else n
def zm (n:Int):Bool:=decide (0≤n∧n≤1114111∧(n < 55296∨57343 < n))
theorem XT (z:Int):(zI z == 0) = !zm z:=by
 unfold zI zm;repeat' split
 all_goals simp
 all_goals omega
theorem Yg (r:Int) (h0 : -2147483648≤r) (h1:r≤2147483647) (w:World):Calls Tryz.prog 228 #[.int .i32 r] w fun e w' =>e=.returned (.int .i64 (zf r))∧w'=w:=by
 by_cases a:57344≤r
 ·have h:zf r=r - 2048:=by unfold zf;rw [if_pos a]
  rw [h];go_enter Tryz.func228,Tryz.ntmps228;go_wp2;go_ret;exact ⟨rfl,rfl⟩
 ·by_cases b:55296 < r
  ·have h:zf r=55296:=by unfold zf;rw [if_neg a,if_pos b]
   rw [h];go_enter Tryz.func228,Tryz.ntmps228;go_wp2;go_ret;exact ⟨rfl,rfl⟩
  ·have h:zf r=r:=by unfold zf;rw [if_neg a,if_neg b]
   rw [h];go_enter Tryz.func228,Tryz.ntmps228;go_wp2;go_ret;exact ⟨rfl,rfl⟩
theorem ZH (n:Int) (h0:0≤n) (h1:n≤1112063) (w:World):Calls Tryz.prog 241 #[.int .i64 n] w fun e w' =>e=.returned (.int .i32 (zU n))∧w'=w:=by
 by_cases a:55296≤n
 ·have h:zU n=n+2048:=by unfold zU;rw [if_pos a]
  rw [h];go_enter Tryz.func241,Tryz.ntmps241;go_wp2;go_ret;exact ⟨rfl,rfl⟩
 ·have h:zU n=n:=by unfold zU;rw [if_neg a]
  rw [h];go_enter Tryz.func241,Tryz.ntmps241;go_wp2;go_ret;exact ⟨rfl,rfl⟩
abbrev zc4 (x:Int × Int):Value := .agg #[.int .i32 x.1,.int .i32 x.2]
def yF (x:Int × Int):Bool:=zm x.1 && zm x.2
theorem Q1 (x:Int × Int) (w:World):Calls Tryz.prog 207 #[zc4 x] w fun e w' =>e=.returned (.bool (!yF x))∧Below w.heap.size w w':=by
 obtain ⟨lo,hi⟩:=x;have b:=Blk.new w #[.int .i32 lo,.int .i32 hi] 94;have c0:=b.cell 0;have c1:=b.cell 1;have HB:=kz ((Below.refl w.heap.size w).alloc zD (.cells #[.int .i32 lo,.int .i32 hi] 94));have e0:=XT lo;have e1:=XT hi;clear b;show Calls Tryz.prog 207 #[.agg #[.int .i32 lo,.int .i32 hi]] w _;cases hl:zm lo with
 | false =>
  have HE:Hz ((!yF (lo,hi))=true):=kz (by simp [yF,hl]);rw [hl] at e0;have e0':(zI lo == 0)=true:=e0;clear hl e0;go_enter Tryz.func207,Tryz.ntmps207;go_wp2_with (go_at_call 107;refine (qX _ _).mono ?_;rintro e w' ⟨rfl,rfl⟩)
  go_ret;exact ⟨by rw [oz HE];rfl,oz HB⟩
 | true =>
  have HE:Hz ((!yF (lo,hi)) = !zm hi):=kz (by simp [yF,hl]);rw [hl] at e0;have e0':(zI lo == 0)=false:=e0;clear hl e0;generalize zm hi=q at *;go_enter Tryz.func207,Tryz.ntmps207;go_wp2_with (go_at_call 107;refine (qX _ _).mono ?_;rintro e w' ⟨rfl,rfl⟩)
  go_ret;exact ⟨by rw [oz HE];rfl,oz HB⟩
theorem ZY (x:Int × Int) (w:World):Calls Tryz.prog 208 #[zc4 x] w fun e w' =>e=.returned (.bool (decide (x.2 < x.1)))∧Below w.heap.size w w':=by
 obtain ⟨lo,hi⟩:=x;have b:=Blk.new w #[.int .i32 lo,.int .i32 hi] 94;have c0:=b.cell 0;have c1:=b.cell 1;have HB:=kz ((Below.refl w.heap.size w).alloc zD (.cells #[.int .i32 lo,.int .i32 hi] 94));clear b;show Calls Tryz.prog 208 #[.agg #[.int .i32 lo,.int .i32 hi]] w _;go_enter Tryz.func208,Tryz.ntmps208;go_wp2;go_ret;exact ⟨rfl,oz HB⟩
def yV (x:Int × Int):Int:=if yF x then (if x.2 < x.1 then 11 else 0) else 12
set_option maxRecDepth 100000
set_option maxHeartbeats 8000000
theorem yX {B:Nat} {a w:World} (h:Below B a w) (n:Nat):Below B a (w.drewN n):=h.trans ⟨rfl,rfl,rfl,zD,fun _ _ =>rfl⟩
def RowP (W:World) (a:Option Addr) (zs:List (Int × Int)):Prop:=0 < zs.length→∃ g o,a=some ⟨g,o,none⟩∧g < W.heap.size∧∀ j x,zs[j]?=some x→W.cell? ⟨g,o+j*2,none⟩=some (.int .i32 x.1)∧W.cell? ⟨g,o+j*2+1,none⟩=some (.int .i32 x.2)
theorem RowP.below {W W':World} {a:Option Addr} {zs:List (Int × Int)} (h:RowP W a zs) (hb:Below W.heap.size W W'):RowP W' a zs:=fun h0 =>by
 obtain ⟨g,o,ha,hg,hc⟩:=h h0;have:=hb.size;exact ⟨g,o,ha,by omega,fun j x hj =>⟨(hb.cell (p:=⟨g,o+j*2,none⟩) hg).trans (hc j x hj).1,(hb.cell (p:=⟨g,o+j*2+1,none⟩) hg).trans (hc j x hj).2⟩⟩
def zT (zs:List (Int × Int)) (j:Nat):Int :=
 if yV (zs.getD j (0,0))≠0 then yV (zs.getD j (0,0)) else if 0 < j∧(zs.getD j (0,0)).1≤(zs.getD (j - 1) (0,0)).2 then 13 else 0
def Ks (zs:List (Int × Int)):Value:=match (List.range zs.length).find? (fun j =>zT zs j != 0) with
 | some j =>.tuple #[.int .i64 j,.int .i64 (zT zs j)]
 | none =>.tuple #[.int .i64 0,.int .i64 0]
theorem ZE (zs:List (Int × Int)) (k:Nat) (hk:k < zs.length) (h0:∀ i,i < k→zT zs i=0) (h1:zT zs k≠0):Ks zs=.tuple #[.int .i64 k,.int .i64 (zT zs k)]:=by
 have:(List.range zs.length).find? (fun j =>zT zs j != 0)=some k:=by
  rw [List.find?_range_eq_some];exact ⟨by simpa using h1,by simpa using hk,fun j hj =>by simp [h0 j hj]⟩
 unfold Ks;rw [this]
theorem zbb (zs:List (Int × Int)) (h0:∀ i,i < zs.length→zT zs i=0):Ks zs=.tuple #[.int .i64 0,.int .i64 0]:=by
 have:(List.range zs.length).find? (fun j =>zT zs j != 0)=none:=by
  rw [List.find?_eq_none];intro j hj;simp [h0 j (by simpa using hj)]
 unfold Ks;rw [this]
theorem zba (a:Option Addr) (cap:Nat) (zs:List (Int × Int)) (hz:zs.length≤1073741824) (w:World) (hr:RowP w a zs) :
  Calls Tryz.prog 195 #[.slice a zs.length cap] w fun e w' =>e=.returned (Ks zs)∧Below w.heap.size w w':=by
 have HR:=kz hr;have hzi:(zs.length:Int)≤1073741824:=by omega
 clear hr;go_enter Tryz.func195,Tryz.ntmps195;go_wp2;go_loopw [8] (fun i wr => ∃ k:Nat,i=.int .i64 k∧k≤zs.length∧Hz (∀ i,i < k→zT zs i=0)∧Hz (Below w.heap.size w wr)) (fun i _ =>zs.length - (intOf i).toNat)
 case atStart =>exact ⟨0,rfl,by omega,kz (fun i hi =>by omega),kz zl⟩
 case round =>
  obtain ⟨k,rfl,hk,HZ,HB⟩:=hrel;by_cases hkn:k < zs.length
  ·have hk1:(k:Int) < (zs.length:Int):=by omega
   have hk2:=Zp k
   obtain ⟨x,hx⟩:∃ x,zs[k]?=some x:=⟨_,qR hkn⟩;have hgd:zs.getD k (0,0)=x:=by simp [List.getD,hx]
   obtain ⟨g,o,rfl,hg,hc⟩:=oz HR (by omega);have c0:=((oz HB).cell (p:=⟨g,o+k*2,none⟩) hg).trans (hc k x hx).1;have c1:=((oz HB).cell (p:=⟨g,o+k*2+1,none⟩) hg).trans (hc k x hx).2;have HN:=kz (fun w =>Q1 x w);have HFa:=kz (fun w =>ZY x w);obtain ⟨lo,hi⟩:=x;simp only at c0 c1;have b1:=Blk.new wr #[.int .i32 lo,.int .i32 hi] 94;have q0:=b1.cell 0;have q1:=b1.cell 1;have HB1:=kz ((oz HB).alloc (oz HB).size (.cells #[.int .i32 lo,.int .i32 hi] 94));have HBl:=kz b1;clear b1;cases he:yF (lo,hi) with
   | false =>
    have HBR:Hz (zT zs k=12):=kz (by unfold zT yV;rw [hgd];simp [he]);have HV:=kz (ZE zs k hkn (oz HZ) (by rw [oz HBR];decide));rw [he] at HN;clear he hgd hc;go_wp2_with fail
    refine (oz HN _).mono ?_;rintro e w2 ⟨rfl,hb⟩;have HB2:=kz ((oz HB1).trans (hb.mono (oz HB1).size));clear hb;go_wp2
    go_ret2
    exact ⟨by rw [oz HV,oz HBR];rfl,oz HB2⟩
   | true =>
    rw [he] at HN;by_cases hfl:hi < lo
    ·have HBR:Hz (zT zs k=11):=kz (by unfold zT yV;rw [hgd];simp [he,hfl]);have HV:=kz (ZE zs k hkn (oz HZ) (by rw [oz HBR];decide));have hfd:decide (hi < lo)=true:=JS hfl;clear he hgd hc;go_wp2_with fail
     refine (oz HN _).mono ?_;rintro e w2 ⟨rfl,hb⟩;have HB2:=kz ((oz HB1).trans (hb.mono (oz HB1).size));have b2:=(oz HBl).below hb (oz HBl).lt;have r0:=b2.cell 0;have r1:=b2.cell 1;clear hb b2;go_wp2_with fail
     refine (oz HFa _).mono ?_;rintro e w3 ⟨rfl,hb⟩;have HB3:=kz ((oz HB2).trans (hb.mono (oz HB2).size));clear hb;simp only [hfd];go_wp2
     go_ret2
     exact ⟨by rw [oz HV,oz HBR];rfl,oz HB3⟩
    ·have hfd:decide (hi < lo)=false:=Zq hfl;have hw:yV (lo,hi)=0:=by unfold yV;simp [he,hfl]
     by_cases hk0:k=0
     ·subst hk0;simp only [Nat.zero_mul,Nat.add_zero] at c0 c1;have HBR:Hz (zT zs 0=0):=kz (by unfold zT;rw [hgd,if_neg (by simp [hw])];simp);clear he hgd hc hw;go_wp2_with fail
      refine (oz HN _).mono ?_;rintro e w2 ⟨rfl,hb⟩;have HB2:=kz ((oz HB1).trans (hb.mono (oz HB1).size));have b2:=(oz HBl).below hb (oz HBl).lt;have r0:=b2.cell 0;have r1:=b2.cell 1;clear hb;go_wp2_with fail
      refine (oz HFa _).mono ?_;rintro e w3 ⟨rfl,hb⟩;have HB3:=kz ((oz HB2).trans (hb.mono (oz HB2).size));clear hb b2;simp only [hfd];go_wp2
      go_quiet (fail)
      go_wp2
      go_roundw
      case rel =>exact ⟨1,rfl,by omega,kz (fun i hi =>(show i=0 by omega) ▸ oz HBR),kz (yX (oz HB3) _)⟩
      case measure =>simp [intOf];omega
     ·obtain ⟨m,rfl⟩:∃ m,k=m+1:=⟨k - 1,by omega⟩;obtain ⟨y,hy⟩:∃ y,zs[m]?=some y:=⟨_,qR (by omega)⟩;have hgy:zs.getD m (0,0)=y:=by simp [List.getD,hy]
      have hcy:=(hc m y hy).2;obtain ⟨plo,phi⟩:=y;simp only at hcy;have hbr:zT zs (m+1)=if lo≤phi then 13 else 0:=by
       unfold zT;rw [hgd,if_neg (by simp [hw]),Nat.add_sub_cancel,hgy];simp
      have HBR:=kz hbr;have hlt:=(oz HB).size;have hm1:(m:Int) < (zs.length:Int):=by omega
      have hm2:((m:Nat):Int).toNat=m:=by omega
      have hm3:(m:Int)+1 < (zs.length:Int):=by omega
      have hm4:((m:Int)+1).toNat=m+1:=by omega
      have hm5:(m:Int)≤1073741824:=by omega
      have HCY:=kz hcy;clear he hgd hc hw hbr hgy hy hcy;go_wp2_with fail
      refine (oz HN _).mono ?_;rintro e w2 ⟨rfl,hb⟩;have HB2:=kz ((oz HB1).trans (hb.mono (oz HB1).size));have b2:=(oz HBl).below hb (oz HBl).lt;have r0:=b2.cell 0;have r1:=b2.cell 1;clear hb;go_wp2_with fail
      refine (oz HFa _).mono ?_;rintro e w3 ⟨rfl,hb⟩;have HB3:=kz ((oz HB2).trans (hb.mono (oz HB2).size));have b3:=b2.below hb b2.lt;have s0:=b3.cell 0;have d2:=((oz HB3).cell (p:=⟨g,o+m*2+1,none⟩) hg).trans (oz HCY);clear hb b2 b3 r0 r1 q0 q1;simp only [hfd];by_cases hle:lo≤phi
      ·have HV:=kz (ZE zs (m+1) hkn (oz HZ) (by rw [oz HBR,if_pos hle];decide));have HB13:Hz (zT zs (m+1)=13):=kz (by rw [oz HBR,if_pos hle]);go_wp2
       go_quiet (fail)
       go_wp2
       go_ret2
       exact ⟨by rw [oz HV,oz HB13];rfl,yX (oz HB3) _⟩
      ·have HB0:Hz (zT zs (m+1)=0):=kz (by rw [oz HBR,if_neg hle]);go_wp2
       go_quiet (fail)
       go_wp2
       go_roundw
       case rel =>exact ⟨m+1+1,by go_num,by omega,kz (fun i hi =>by
        by_cases e:i=m+1
        ·subst e;exact oz HB0
        ·exact oz HZ i (by omega)),kz (yX (oz HB3) _)⟩
       case measure =>simp [intOf];omega
  ·have hk1:¬ (k:Int) < (zs.length:Int):=by omega
   obtain rfl:k=zs.length:=by omega
   have HV:=kz (zbb zs (oz HZ));go_wp2
   go_ret2
   exact ⟨by rw [oz HV];rfl,oz HB⟩
def Xa (a b:Int):Int:=if a < b then -1 else if b < a then 1 else 0
theorem zfa (a:Int) (w:World):Calls Tryz.prog 222 #[.int .i32 a] w fun e w' =>e=.returned (.bool false)∧w'=w:=by
 go_enter Tryz.func222,Tryz.ntmps222;go_wp2;go_ret;exact ⟨rfl,rfl⟩
theorem ZZ (a b:Int) (w:World):Calls Tryz.prog 189 #[.int .i32 a,.int .i32 b] w fun e w' =>e=.returned (.int .i64 (Xa a b))∧w'=w:=by
 have HA:=kz (zfa a w);have HB:=kz (zfa b w);by_cases h1:a < b
 ·have h:Xa a b = -1:=by unfold Xa;rw [if_pos h1]
  rw [h];clear h;go_enter Tryz.func189,Tryz.ntmps189;go_wp2_with fail
  refine (oz HA).mono ?_;rintro e w2 ⟨rfl,rfl⟩;go_wp2_with fail
  refine (oz HB).mono ?_;rintro e w2 ⟨rfl,rfl⟩;go_wp2;go_ret;exact ⟨rfl,rfl⟩
 ·by_cases h2:b < a
  ·have h:Xa a b=1:=by unfold Xa;rw [if_neg h1,if_pos h2]
   rw [h];clear h;go_enter Tryz.func189,Tryz.ntmps189;go_wp2_with fail
   refine (oz HA).mono ?_;rintro e w2 ⟨rfl,rfl⟩;go_wp2_with fail
   refine (oz HB).mono ?_;rintro e w2 ⟨rfl,rfl⟩;go_wp2;go_ret;exact ⟨rfl,rfl⟩
  ·have h:Xa a b=0:=by unfold Xa;rw [if_neg h1,if_neg h2]
   rw [h];clear h;go_enter Tryz.func189,Tryz.ntmps189;go_wp2_with fail
   refine (oz HA).mono ?_;rintro e w2 ⟨rfl,rfl⟩;go_wp2_with fail
   refine (oz HB).mono ?_;rintro e w2 ⟨rfl,rfl⟩;go_wp2;go_ret;exact ⟨rfl,rfl⟩
theorem zfg (x:Int × Int) (r:Int) (w:World):Calls Tryz.prog 188 #[zc4 x,.int .i32 r] w fun e w' =>e=.returned (.int .i64 (Xa x.2 r))∧Below w.heap.size w w':=by
 have HC:=kz (fun w =>ZZ x.2 r w);obtain ⟨lo,hi⟩:=x;simp only at HC;go_enter Tryz.func188,Tryz.ntmps188;go_wp2_with fail
 refine (oz HC _).mono ?_;rintro e w2 ⟨rfl,rfl⟩;go_wp2;go_ret;exact ⟨rfl,(Below.refl _ w).alloc zD _⟩
theorem zah (x:Int × Int) (r:Int) (w:World):Calls Tryz.prog 242 #[zc4 x,.int .i32 r] w fun e w' =>e=.returned (.int .i64 (Xa x.1 r))∧Below w.heap.size w w':=by
 have HC:=kz (fun w =>ZZ x.1 r w);obtain ⟨lo,hi⟩:=x;simp only at HC;go_enter Tryz.func242,Tryz.ntmps242;go_wp2_with fail
 refine (oz HC _).mono ?_;rintro e w2 ⟨rfl,rfl⟩;go_wp2;go_ret;exact ⟨rfl,(Below.refl _ w).alloc zD _⟩
set_option maxRecDepth 100000
set_option maxHeartbeats 8000000
def Cut (key:Int × Int→Int) (zs:List (Int × Int)) (r:Int) (k:Nat):Prop:=k≤zs.length∧(∀ j x,j < k→zs[j]?=some x→key x < r)∧(∀ j x,k≤j→zs[j]?=some x→r≤key x)
theorem ziA {a b:Int} (h:a < b):Xa a b = -1:=by unfold Xa;rw [if_pos h]
theorem zdR (p:Option Addr) (cap:Nat) (zs:List (Int × Int)) (hz:zs.length≤1073741824) (r:Int) (hs:∀ (i j:Nat) (x y:Int × Int),i < j→zs[i]?=some x→zs[j]?=some y→x.2 < y.2) (w:World) (hr:RowP w p zs) :
  Calls Tryz.prog 187 #[.slice p zs.length cap,.int .i32 r,.func (.func 188) #[] #[]] w fun e w' => ∃ (k:Nat) (b:Bool),e=.returned (.tuple #[.int .i64 k,.bool b])∧Cut (fun x =>x.2) zs r k∧Below w.heap.size w w':=by
 have HR:=kz hr;have HS:=kz hs;have hzi:(zs.length:Int)≤1073741824:=by omega
 clear hr hs;go_enter Tryz.func187,Tryz.ntmps187;go_wp2;go_loopw [9,10] (fun i j wr => ∃ a b:Nat,a≤b∧b≤zs.length∧i=.int .i64 a∧j=.int .i64 b∧Hz (∀ j x,j < a→zs[j]?=some x→x.2 < r)∧Hz (∀ j x,b≤j→zs[j]?=some x→r≤x.2)∧Hz (Below w.heap.size w wr)) (fun i j _ =>(intOf j).toNat - (intOf i).toNat)
 case atStart =>exact ⟨0,zs.length,by omega,zD,rfl,rfl,kz (fun j x hj =>by omega),kz (fun j x hj hx =>by have:=(Ze.1 hx).1;omega),kz zl⟩
 case round =>
  obtain ⟨a,b,hab,hb,rfl,rfl,H1,H2,HB⟩:=hrel;by_cases hlt:a < b
  ·have h1:(a:Int) < (b:Int):=by omega
   obtain ⟨x,hx⟩:∃ x,zs[(a+b) / 2]?=some x:=⟨_,qR (by omega)⟩;obtain ⟨g,o,rfl,hg,hc⟩:=oz HR (by omega);have c0:=((oz HB).cell (p:=⟨g,o+(a+b) / 2*2,none⟩) hg).trans (hc _ x hx).1;have c1:=((oz HB).cell (p:=⟨g,o+(a+b) / 2*2+1,none⟩) hg).trans (hc _ x hx).2;have HN:=kz (fun w =>zfg x r w);have HX:=kz hx;clear hx hc;by_cases hxn:x.2 < r
   ·rw [ziA hxn] at HN;have H1':Hz (∀ j y,j < (a+b) / 2+1→zs[j]?=some y→y.2 < r):=kz (fun j y hj hy =>by
     by_cases e:j=(a+b) / 2
     ·subst e;rw [oz HX] at hy;cases hy;exact hxn
     ·have:=oz HS j ((a+b) / 2) y x (by omega) hy (oz HX);omega)
    clear hxn;obtain ⟨lo,hi⟩:=x;simp only at c0 c1;go_wp2_with fail
    refine (oz HN _).mono ?_;rintro e w2 ⟨rfl,hb2⟩;have HB2:=kz ((oz HB).trans (hb2.mono (oz HB).size));clear hb2;go_wp2
    go_roundw
    case rel =>
     refine ⟨(a+b) / 2+1,b,by omega,hb, ?_,rfl,H1',H2,HB2⟩
     congr 1
    case measure =>simp [intOf];omega
   ·have H2':Hz (∀ j y,(a+b) / 2≤j→zs[j]?=some y→r≤y.2):=kz (fun j y hj hy =>by
     by_cases e:j=(a+b) / 2
     ·subst e;rw [oz HX] at hy;cases hy;omega
     ·have:=oz HS ((a+b) / 2) j x y (by omega) (oz HX) hy;omega)
    have hq:0≤Xa x.2 r:=by unfold Xa;rw [if_neg hxn];split <;> omega
    generalize Xa x.2 r=q at HN hq;have hq1:¬ q < 0:=by omega
    clear hxn;obtain ⟨lo,hi⟩:=x;simp only at c0 c1;go_wp2_with fail
    refine (oz HN _).mono ?_;rintro e w2 ⟨rfl,hb2⟩;have HB2:=kz ((oz HB).trans (hb2.mono (oz HB).size));clear hb2;go_wp2
    go_roundw
    case rel =>
     refine ⟨a,(a+b) / 2,by omega,by omega,rfl, ?_,H1,H2',HB2⟩
     congr 1
    case measure =>simp [intOf];omega
  ·have h1:¬ (a:Int) < (b:Int):=by omega
   obtain rfl:a=b:=by omega
   have HK:Hz (Cut (fun x =>x.2) zs r a):=kz ⟨hb,oz H1,oz H2⟩;by_cases hal:a < zs.length
   ·obtain ⟨x,hx⟩:∃ x,zs[a]?=some x:=⟨_,qR hal⟩;obtain ⟨g,o,rfl,hg,hc⟩:=oz HR (by omega);have c0:=((oz HB).cell (p:=⟨g,o+a*2,none⟩) hg).trans (hc _ x hx).1;have c1:=((oz HB).cell (p:=⟨g,o+a*2+1,none⟩) hg).trans (hc _ x hx).2;have HN:=kz (fun w =>zfg x r w);have h2:(a:Int) < (zs.length:Int):=by omega
    have h3:((a:Nat):Int).toNat=a:=by omega
    clear hx hc;generalize Xa x.2 r=q at HN;obtain ⟨lo,hi⟩:=x;simp only at c0 c1;go_wp2_with fail
    refine (oz HN _).mono ?_;rintro e w2 ⟨rfl,hb2⟩;have HB2:=kz ((oz HB).trans (hb2.mono (oz HB).size));clear hb2;by_cases hq:q=0
    ·subst hq;go_wp2
     go_ret2
     first | exact ⟨a,_,rfl,oz HK,oz HB2⟩ | exact ⟨oz HK,oz HB2⟩
    ·have hqe:(q == 0)=false:=beq_eq_false_iff_ne.2 hq;go_wp2
     go_ret2
     first | exact ⟨a,_,rfl,oz HK,oz HB2⟩ | exact ⟨oz HK,oz HB2⟩
   ·have h2:¬ (a:Int) < (zs.length:Int):=by omega
    go_wp2
    go_ret2
    first | exact ⟨a,_,rfl,oz HK,oz HB⟩ | exact ⟨oz HK,oz HB⟩ | exact ⟨a,rfl,oz HK,oz HB⟩ | exact ⟨a,⟨_,rfl⟩,oz HK,oz HB⟩ | exact ⟨a,false,rfl,oz HK,oz HB⟩ | exact ⟨a,by simp;exact ⟨oz HK,oz HB⟩⟩
theorem zdQ (p:Option Addr) (cap:Nat) (zs:List (Int × Int)) (hz:zs.length≤1073741824) (r:Int) (hs:∀ (i j:Nat) (x y:Int × Int),i < j→zs[i]?=some x→zs[j]?=some y→x.1 < y.1) (w:World) (hr:RowP w p zs) :
  Calls Tryz.prog 187 #[.slice p zs.length cap,.int .i32 r,.func (.func 242) #[] #[]] w fun e w' => ∃ (k:Nat) (b:Bool),e=.returned (.tuple #[.int .i64 k,.bool b])∧Cut (fun x =>x.1) zs r k∧Below w.heap.size w w':=by
 have HR:=kz hr;have HS:=kz hs;have hzi:(zs.length:Int)≤1073741824:=by omega
 clear hr hs;go_enter Tryz.func187,Tryz.ntmps187;go_wp2;go_loopw [9,10] (fun i j wr => ∃ a b:Nat,a≤b∧b≤zs.length∧i=.int .i64 a∧j=.int .i64 b∧Hz (∀ j x,j < a→zs[j]?=some x→x.1 < r)∧Hz (∀ j x,b≤j→zs[j]?=some x→r≤x.1)∧Hz (Below w.heap.size w wr)) (fun i j _ =>(intOf j).toNat - (intOf i).toNat)
 case atStart =>exact ⟨0,zs.length,by omega,zD,rfl,rfl,kz (fun j x hj =>by omega),kz (fun j x hj hx =>by have:=(Ze.1 hx).1;omega),kz zl⟩
 case round =>
  obtain ⟨a,b,hab,hb,rfl,rfl,H1,H2,HB⟩:=hrel;by_cases hlt:a < b
  ·have h1:(a:Int) < (b:Int):=by omega
   obtain ⟨x,hx⟩:∃ x,zs[(a+b) / 2]?=some x:=⟨_,qR (by omega)⟩;obtain ⟨g,o,rfl,hg,hc⟩:=oz HR (by omega);have c0:=((oz HB).cell (p:=⟨g,o+(a+b) / 2*2,none⟩) hg).trans (hc _ x hx).1;have c1:=((oz HB).cell (p:=⟨g,o+(a+b) / 2*2+1,none⟩) hg).trans (hc _ x hx).2;have HN:=kz (fun w =>zah x r w);have HX:=kz hx;clear hx hc;by_cases hxn:x.1 < r
   ·rw [ziA hxn] at HN;have H1':Hz (∀ j y,j < (a+b) / 2+1→zs[j]?=some y→y.1 < r):=kz (fun j y hj hy =>by
     by_cases e:j=(a+b) / 2
     ·subst e;rw [oz HX] at hy;cases hy;exact hxn
     ·have:=oz HS j ((a+b) / 2) y x (by omega) hy (oz HX);omega)
    clear hxn;obtain ⟨lo,hi⟩:=x;simp only at c0 c1;go_wp2_with fail
    refine (oz HN _).mono ?_;rintro e w2 ⟨rfl,hb2⟩;have HB2:=kz ((oz HB).trans (hb2.mono (oz HB).size));clear hb2;go_wp2
    go_roundw
    case rel =>
     refine ⟨(a+b) / 2+1,b,by omega,hb, ?_,rfl,H1',H2,HB2⟩
     congr 1
    case measure =>simp [intOf];omega
   ·have H2':Hz (∀ j y,(a+b) / 2≤j→zs[j]?=some y→r≤y.1):=kz (fun j y hj hy =>by
     by_cases e:j=(a+b) / 2
     ·subst e;rw [oz HX] at hy;cases hy;omega
     ·have:=oz HS ((a+b) / 2) j x y (by omega) (oz HX) hy;omega)
    have hq:0≤Xa x.1 r:=by unfold Xa;rw [if_neg hxn];split <;> omega
    generalize Xa x.1 r=q at HN hq;have hq1:¬ q < 0:=by omega
    clear hxn;obtain ⟨lo,hi⟩:=x;simp only at c0 c1;go_wp2_with fail
    refine (oz HN _).mono ?_;rintro e w2 ⟨rfl,hb2⟩;have HB2:=kz ((oz HB).trans (hb2.mono (oz HB).size));clear hb2;go_wp2
    go_roundw
    case rel =>
     refine ⟨a,(a+b) / 2,by omega,by omega,rfl, ?_,H1,H2',HB2⟩
     congr 1
    case measure =>simp [intOf];omega
  ·have h1:¬ (a:Int) < (b:Int):=by omega
   obtain rfl:a=b:=by omega
   have HK:Hz (Cut (fun x =>x.1) zs r a):=kz ⟨hb,oz H1,oz H2⟩;by_cases hal:a < zs.length
   ·obtain ⟨x,hx⟩:∃ x,zs[a]?=some x:=⟨_,qR hal⟩;obtain ⟨g,o,rfl,hg,hc⟩:=oz HR (by omega);have c0:=((oz HB).cell (p:=⟨g,o+a*2,none⟩) hg).trans (hc _ x hx).1;have c1:=((oz HB).cell (p:=⟨g,o+a*2+1,none⟩) hg).trans (hc _ x hx).2;have HN:=kz (fun w =>zah x r w);have h2:(a:Int) < (zs.length:Int):=by omega
    have h3:((a:Nat):Int).toNat=a:=by omega
    clear hx hc;generalize Xa x.1 r=q at HN;obtain ⟨lo,hi⟩:=x;simp only at c0 c1;go_wp2_with fail
    refine (oz HN _).mono ?_;rintro e w2 ⟨rfl,hb2⟩;have HB2:=kz ((oz HB).trans (hb2.mono (oz HB).size));clear hb2;by_cases hq:q=0
    ·subst hq;go_wp2
     go_ret2
     first | exact ⟨a,_,rfl,oz HK,oz HB2⟩ | exact ⟨oz HK,oz HB2⟩
    ·have hqe:(q == 0)=false:=beq_eq_false_iff_ne.2 hq;go_wp2
     go_ret2
     first | exact ⟨a,_,rfl,oz HK,oz HB2⟩ | exact ⟨oz HK,oz HB2⟩
   ·have h2:¬ (a:Int) < (zs.length:Int):=by omega
    go_wp2
    go_ret2
    first | exact ⟨a,_,rfl,oz HK,oz HB⟩ | exact ⟨oz HK,oz HB⟩ | exact ⟨a,rfl,oz HK,oz HB⟩ | exact ⟨a,⟨_,rfl⟩,oz HK,oz HB⟩ | exact ⟨a,false,rfl,oz HK,oz HB⟩ | exact ⟨a,by simp;exact ⟨oz HK,oz HB⟩⟩
set_option maxRecDepth 100000
set_option maxHeartbeats 8000000
def zS (x:Int × Int):Int:=zf x.2+1 - zf x.1
def total:List (Int × Int)→Int
 | [] =>0
 | x::zs =>zS x+total zs
structure Spread (zs:List (Int × Int)):Prop where
 ends:∀ x ∈ zs,yF x=true∧x.1≤x.2
 apart:∀ (i j:Nat) (x y:Int × Int),i < j→zs[i]?=some x→zs[j]?=some y→zf x.2+1 < zf y.1
theorem yL {n:Int} (h:zm n=true):0≤n∧n≤1114111∧(n < 55296∨57343 < n):=by
 unfold zm at h;exact of_decide_eq_true h
theorem zr {x:Int × Int} (h:yF x=true):(0≤x.1∧x.1≤1114111∧(x.1 < 55296∨57343 < x.1))∧(0≤x.2∧x.2≤1114111∧(x.2 < 55296∨57343 < x.2)):=by
 unfold yF at h;rw [Bool.and_eq_true] at h;exact ⟨yL h.1,yL h.2⟩
theorem Qy {a b:Int} (ha:a < 55296∨57343 < a) (hb:b < 55296∨57343 < b):zf a < zf b ↔ a < b:=by
 unfold zf;split <;> split <;> (try split) <;> (try split) <;> omega
theorem Spread.lt {zs:List (Int × Int)} (h:Spread zs) (i j:Nat) (x y:Int × Int) (hij:i < j) (hx:zs[i]?=some x) (hy:zs[j]?=some y):x.2 < y.1:=by
 have a:=zr (h.ends x (YH hx)).1;have b:=zr (h.ends y (YH hy)).1;have:=h.apart i j x y hij hx hy;exact (Qy a.2.2.2 b.1.2.2).1 (by omega)
theorem Spread.los {zs:List (Int × Int)} (h:Spread zs) (i j:Nat) (x y:Int × Int) (hij:i < j) (hx:zs[i]?=some x) (hy:zs[j]?=some y):x.1 < y.1:=by
 have:=h.lt i j x y hij hx hy;have:=(h.ends x (YH hx)).2;omega
theorem Spread.his {zs:List (Int × Int)} (h:Spread zs) (i j:Nat) (x y:Int × Int) (hij:i < j) (hx:zs[i]?=some x) (hy:zs[j]?=some y):x.2 < y.2:=by
 have:=h.lt i j x y hij hx hy;have:=(h.ends y (YH hy)).2;omega
theorem zH {a:Int} (h0:0≤a) (h1:a≤1114111):0≤zf a∧zf a≤1112063:=by
 unfold zf;split <;> (try split) <;> omega
def RowA (W:World) (a:Option Addr) (zs:List (Int × Int)):Prop:=0 < zs.length→∃ g o,a=some ⟨g,o,none⟩∧g < W.heap.size∧∀ j,j < zs.length→W.cell? ⟨g,o+j,none⟩=some (.int .i64 (total (zs.take j)))
theorem RowA.below {W W':World} {a:Option Addr} {zs:List (Int × Int)} (h:RowA W a zs) (hb:Below W.heap.size W W'):RowA W' a zs:=fun h0 =>by
 obtain ⟨g,o,ha,hg,hc⟩:=h h0;have:=hb.size;exact ⟨g,o,ha,by omega,fun j hj =>(hb.cell (p:=⟨g,o+j,none⟩) hg).trans (hc j hj)⟩
theorem X7 {zs:List (Int × Int)} (h:∀ x ∈ zs,yF x=true∧x.1≤x.2):0≤total zs∧total zs≤1112064*zs.length:=by
 induction zs with
 | nil =>simp [total]
 | cons x zs ih =>
  have:=ih fun y hy =>h y (List.mem_cons_of_mem _ hy)
  have hx:=h x List.mem_cons_self;have e:=zr hx.1;have r1:=zH e.1.1 e.1.2.1;have r2:=zH e.2.1 e.2.2.1;have:=(Qy e.2.2.2 e.1.2.2);simp only [total,zS,List.length_cons];omega
def zaT (zs:List (Int × Int)) (r:Int):Nat→Int
 | 0 =>0
 | k+1 =>total (zs.take k)+min (zf r) (zf (zs.getD k (0,0)).2+1) - zf (zs.getD k (0,0)).1
theorem ZC (zs:List (Int × Int)) (x:Int × Int):total (zs++[x])=total zs+zS x:=by
 induction zs with
 | nil =>simp [total]
 | cons y zs ih =>simp only [List.cons_append,total,ih];omega
theorem zeD {zs:List (Int × Int)} (h:Spread zs):zaT zs 1114112 zs.length=total zs:=by
 rcases List.eq_nil_or_concat zs with rfl | ⟨ys,x,rfl⟩
 ·rfl
 ·have hx:=h.ends x (by simp);have e:=zr hx.1;have r2:=zH e.2.1 e.2.2.1;have hr:zf 1114112=1112064:=by decide
  rw [List.concat_eq_append,List.length_append,List.length_singleton,ZC];show total ((ys++[x]).take ys.length)+min (zf 1114112) (zf ((ys++[x]).getD ys.length (0,0)).2+1) - zf ((ys++[x]).getD ys.length (0,0)).1=_;have hg:(ys++[x]).getD ys.length (0,0)=x:=by simp [List.getD]
  rw [List.take_left' rfl,hg,hr];unfold zS;omega
structure SetAt (W:World) (B:Nat) (zs:List (Int × Int)):Prop where
 form:∃ a ca b cb,Blk W B #[.slice a zs.length ca,.slice b zs.length cb] 226∧RowP W a zs∧RowA W b zs
 spread:Spread zs
 len:zs.length≤1112064
theorem SetAt.below {W W':World} {B:Nat} {zs:List (Int × Int)} (h:SetAt W B zs) (hb:Below W.heap.size W W'):SetAt W' B zs:=by
 obtain ⟨⟨a,ca,b,cb,h1,h2,h3⟩,hs,hl⟩:=h;exact ⟨⟨a,ca,b,cb,h1.below hb h1.lt,h2.below hb,h3.below hb⟩,hs,hl⟩
theorem zbt (B:Nat) (zs:List (Int × Int)) (r:Int) (h0 : -2147483648≤r) (h1:r≤2147483647) (w:World) (hs:SetAt w B zs) :
  Calls Tryz.prog 231 #[.pointer (some ⟨B,0,none⟩),.int .i32 r] w fun e w' => ∃ k,e=.returned (.int .i64 (zaT zs r k))∧Cut (fun x =>x.1) zs r k∧Below w.heap.size w w':=by
 obtain ⟨⟨a,ca,b,cb,hb0,hp,ha⟩,hsp,hl⟩:=hs;have d0:=hb0.cell 0;have HQ:=kz (fun w hr =>zdQ a ca zs (by omega) r (fun i j x y =>hsp.los i j x y) w hr);have HP:=kz hp;have HA:=kz ha;have HBk:=kz hb0;have HS:=kz hsp;clear hp ha hsp hb0;go_enter Tryz.func231,Tryz.ntmps231;go_wp2_with fail
 refine (oz HQ _ (oz HP)).mono ?_;rintro e w2 ⟨k,bb,rfl,hcut,hb⟩;have HB:=kz hb;have HC:=kz hcut;have e0:=((oz HBk).below hb (oz HBk).lt).cell 0;have e1:=((oz HBk).below hb (oz HBk).lt).cell 1;have HP2:=kz ((oz HP).below hb);have HA2:=kz ((oz HA).below hb);have hk:=hcut.1;clear hb hcut;cases k with
 | zero =>
  go_wp2;go_ret;exact ⟨0,rfl,oz HC,oz HB⟩
 | succ m =>
  obtain ⟨x,hx⟩:∃ x,zs[m]?=some x:=⟨_,qR (by omega)⟩;obtain ⟨g,o,rfl,hg,hc⟩:=oz HP2 (by omega);obtain ⟨g',o',rfl,hg',hc'⟩:=oz HA2 (by omega);have c0:=(hc m x hx).1;have c1:=(hc m x hx).2;have c2:=hc' m (by omega);have hgd:zs.getD m (0,0)=x:=by simp [List.getD,hx]
  have hex:=(oz HS).ends x (YH hx);have hee:=zr hex.1;have r1:=zH hee.1.1 hee.1.2.1;have r2:=zH hee.2.1 hee.2.2.1;have htb:=X7 (zs:=zs.take m) (fun y hy =>(oz HS).ends y (List.mem_of_mem_take hy));have hlt:(zs.take m).length≤1112064:=by rw [List.length_take];omega
  have HV:Hz (zaT zs r (m+1)=total (zs.take m)+min (zf r) (zf x.2+1) - zf x.1):=kz (by show total (zs.take m)+min (zf r) (zf (zs.getD m (0,0)).2+1) - zf (zs.getD m (0,0)).1=_;rw [hgd]);have hrr : -2147483648≤zf r∧zf r≤2147483647:=by unfold zf;split <;> (try split) <;> omega
  have hlo:0≤x.1∧x.1≤1114111:=⟨hee.1.1,hee.1.2.1⟩;have hhi:0≤x.2∧x.2≤1114111:=⟨hee.2.1,hee.2.2.1⟩;generalize total (zs.take m)=tt at c2 htb HV;have htt:0≤tt∧tt≤1236686340096:=by have:=htb.1;have:=htb.2;omega
  clear hc hc' hgd hex hee htb hx;obtain ⟨lo,hi⟩:=x;simp only at c0 c1 HV r1 r2 hlo hhi;have hm1:((m+1:Nat):Int) - 1=(m:Int):=by omega
  have hm2:((m:Nat):Int).toNat=m:=by omega
  have hm3:(m:Int) < (zs.length:Int):=by omega
  have b1:=Blk.new w2 #[.int .i32 lo,.int .i32 hi] 94;have q0:=b1.cell 0;have q1:=b1.cell 1;have HB1:=kz ((oz HB).alloc (oz HB).size (.cells #[.int .i32 lo,.int .i32 hi] 94));have f1:(w2.alloc (.cells #[.int .i32 lo,.int .i32 hi] 94)).cell? ⟨B,1,none⟩=some (.slice (some ⟨g',o',none⟩) zs.length cb):=(((Below.refl _ w2).alloc zD _).cell (p:=⟨B,1,none⟩) ((oz HBk).below (oz HB) (oz HBk).lt).lt).trans e1;have f2:=(((Below.refl _ w2).alloc zD (.cells #[.int .i32 lo,.int .i32 hi] 94)).cell (p:=⟨g',o' + m,none⟩) hg').trans c2;clear b1;go_wp2_with fail
  clear e0 e1 c0 c1 c2 d0 HP HA HP2 HA2 hg hg' HBk HS HQ HB
  go_quiet ((go_at_call 228;exact Calls.quiet_of_same (Yg _ (by omega) (by omega) _)))
  go_wp2
  all_goals
   go_ret
   first
    | exact ⟨m+1,by rw [oz HV,show min (zf r) (zf hi+1)=zf hi+1 by omega];rfl,oz HC,yX (oz HB1) _⟩
    | exact ⟨m+1,by rw [oz HV,show min (zf r) (zf hi+1)=zf r by omega];rfl,oz HC,yX (oz HB1) _⟩
    | exact ⟨m+1,by rw [oz HV,Int.min_def];rfl,oz HC,yX (oz HB1) _⟩
theorem Z2 (B:Nat) (zs:List (Int × Int)) (w:World) (hs:SetAt w B zs) :
  Calls Tryz.prog 220 #[.pointer (some ⟨B,0,none⟩)] w fun e w' =>e=.returned (.int .i64 (total zs))∧Below w.heap.size w w':=by
 have HS:=kz hs.spread;have HQ:=kz (zbt B zs 1114112 (by decide) (by decide) w hs);have HT:Hz (∀ k,Cut (fun x =>x.1) zs 1114112 k→zaT zs 1114112 k=total zs):=kz (fun k hk =>by
  have hkl:k=zs.length:=by
   by_cases e:k=zs.length
   ·exact e
   ·have h1:=hk.1;obtain ⟨x,hx⟩:∃ x,zs[k]?=some x:=⟨_,qR (by omega)⟩;have:(1114112:Int)≤x.1:=hk.2.2 k x zD hx;have:=(zr ((oz HS).ends x (YH hx)).1).1.2.1;omega
  subst hkl;exact zeD (oz HS))
 clear hs;go_enter Tryz.func220,Tryz.ntmps220;go_wp2_with fail
 refine (oz HQ).mono ?_;rintro e w2 ⟨k,rfl,hc,hb⟩;rw [oz HT k hc];have HB:=kz hb;clear hb hc;go_wp2;go_ret;exact ⟨rfl,oz HB⟩
set_option maxRecDepth 100000
set_option maxHeartbeats 8000000
def zi (zs:List (Int × Int)) (r:Int):Bool:=zs.any (fun x =>decide (x.1≤r∧r≤x.2)) && zm r
theorem zjg {zs:List (Int × Int)} (h:Spread zs) {r:Int} {k:Nat} (hc:Cut (fun x =>x.2) zs r k):zs.any (fun x =>decide (x.1≤r∧r≤x.2))=match zs[k]? with
  | some x =>decide (x.1≤r)
  | none =>false:=by
 obtain ⟨h1,h2,h3⟩:=hc;cases hk:zs[k]? with
 | none =>
  rw [List.any_eq_false];intro x hx;obtain ⟨i,hi,rfl⟩:=List.mem_iff_getElem.1 hx;have hkl:=List.getElem?_eq_none_iff.1 hk;have:zs[i].2 < r:=h2 i _ (by omega) (qR hi);simp;omega
 | some y =>
  have hy:r≤y.2:=h3 k y zD hk;by_cases hl:y.1≤r
  ·show _=decide (y.1≤r);rw [JS hl,List.any_eq_true];exact ⟨y,YH hk,JS ⟨hl,hy⟩⟩
  ·show _=decide (y.1≤r);rw [Zq hl,List.any_eq_false];intro x hx;obtain ⟨i,hi,rfl⟩:=List.mem_iff_getElem.1 hx;have hxe:=qR hi;by_cases h4:i < k
   ·have:zs[i].2 < r:=h2 i _ h4 hxe;simp;omega
   ·by_cases h5:i=k
    ·subst h5;rw [hxe] at hk;cases hk
     simp;omega
    ·have:=h.lt k i y zs[i] (by omega) hk hxe;have:=(h.ends y (YH hk)).2;simp;omega
theorem zce (B:Nat) (zs:List (Int × Int)) (r:Int) (w:World) (hs:SetAt w B zs) :
  Calls Tryz.prog 109 #[.pointer (some ⟨B,0,none⟩),.int .i32 r] w fun e w' =>e=.returned (.bool (zi zs r))∧Below w.heap.size w w':=by
 obtain ⟨⟨a,ca,b,cb,hb0,hp,ha⟩,hsp,hl⟩:=hs;have d0:=hb0.cell 0;have HQ:=kz (fun w hr =>zdR a ca zs (by omega) r (fun i j x y =>hsp.his i j x y) w hr);have HP:=kz hp;have HBk:=kz hb0;have HS:=kz hsp;have hwr:=XT r;clear hp ha hsp hb0;go_enter Tryz.func109,Tryz.ntmps109;go_wp2_with fail
 refine (oz HQ _ (oz HP)).mono ?_;rintro e w2 ⟨k,bb,rfl,hcut,hb⟩;have HB:=kz hb;have hmc:=zjg (oz HS) hcut;have e0:=((oz HBk).below hb (oz HBk).lt).cell 0;have HP2:=kz ((oz HP).below hb);have hk:=hcut.1;have HV:Hz (zi zs r=(match zs[k]? with | some x =>decide (x.1≤r) | none =>false && zm r))∨True := .inr trivial;clear hb hcut HV;by_cases hkn:k < zs.length
 ·obtain ⟨x,hx⟩:∃ x,zs[k]?=some x:=⟨_,qR hkn⟩;obtain ⟨g,o,rfl,hg,hc⟩:=oz HP2 (by omega);have c0:=(hc k x hx).1;have c1:=(hc k x hx).2;rw [hx] at hmc;have hk1:(k:Int) < (zs.length:Int):=by omega
  have hk2:=Zp k
  obtain ⟨lo,hi⟩:=x;simp only at c0 c1 hmc;clear hc hx;by_cases hlr:lo≤r
  ·have HV:Hz (zi zs r=zm r):=kz (by unfold zi;rw [hmc,JS hlr];rfl);cases hru:zm r with
   | true =>
    rw [hru] at HV hwr;have hw0:(zI r == 0)=false:=hwr;have hw1:(zI r != 0)=true:=by unfold bne;rw [hw0];rfl
    clear hmc hwr hru;go_wp2_with (go_at_call 107;refine (qX _ _).mono ?_;rintro e w' ⟨rfl,rfl⟩)
    go_ret;exact ⟨by rw [oz HV];rfl,oz HB⟩
   | false =>
    rw [hru] at HV hwr;have hw0:(zI r == 0)=true:=hwr;have hw1:(zI r != 0)=false:=by unfold bne;rw [hw0];rfl
    clear hmc hwr hru;go_wp2_with (go_at_call 107;refine (qX _ _).mono ?_;rintro e w' ⟨rfl,rfl⟩)
    go_ret;exact ⟨by rw [oz HV];rfl,oz HB⟩
  ·have HV:Hz (zi zs r=false):=kz (by unfold zi;rw [hmc,Zq hlr];rfl);clear hmc hwr;go_wp2_with (go_at_call 107;refine (qX _ _).mono ?_;rintro e w' ⟨rfl,rfl⟩)
   go_ret;exact ⟨by rw [oz HV];rfl,oz HB⟩
 ·have hk1:¬ (k:Int) < (zs.length:Int):=by omega
  rw [List.getElem?_eq_none (by omega)] at hmc;have HV:Hz (zi zs r=false):=kz (by unfold zi;rw [hmc];rfl);clear hmc hwr;go_wp2;go_ret;exact ⟨by rw [oz HV];rfl,oz HB⟩
end
section
open Go.RowKit Go.Shelf Go.Maps
end
section
open Go.RowKit Go.Shelf
end
section
open Go.RowKit Go.Shelf
open Go.Lib (decodeN decode_at)
theorem ze6 (s:ByteArray) (i:Nat):zI ((rn s i:Nat):Int)≠0:=by
 have t:=JE s i;have h1:=t.small;have h2:=t.nosur;unfold zI;simp only [rn];rw [if_neg (by omega)];repeat' split
 all_goals decide
end
section
open Go.RowKit Go.Shelf
end
section
open Go.RowKit Go.Shelf
open Go.Lib (decode_at)
end
section
open Go.RowKit Go.Shelf
theorem JV (s:ByteArray):∀ f i,Lib.validGoD f (s.data.toList.drop i)=true ↔ ∀ p ∈ zo s f i,j6 s p=false
 | 0,i =>⟨fun _ p hp =>(by cases hp),fun _ =>rfl⟩
 | f+1,i =>by
  have hl:(s.data.toList.drop i).length=s.size - i:=by rw [List.length_drop,Array.length_toList];rfl
  unfold Lib.validGoD;by_cases hi:i < s.size
  ·have hne:¬ s.data.toList.drop i=[]:=fun e =>by rw [e] at hl;have:([] : List UInt8).length=0:=rfl;omega
   rw [if_neg hne,zW s f i hi,Lib.decodeL_drop,List.drop_drop];by_cases hb:rn s i=65533∧wd s i=1
   ·rw [if_pos hb];exact ⟨fun h =>(by cases h),fun h =>by have:=h i (List.mem_cons_self ..);unfold j6 at this;rw [JS hb] at this;cases this⟩
   ·rw [if_neg hb];have ih:=JV s f (i+wd s i);refine ih.trans ⟨fun h p hp =>?_,fun h p hp =>h p (List.mem_cons_of_mem _ hp)⟩;rcases List.mem_cons.1 hp with rfl | hp
    ·unfold j6;exact Zq hb
    ·exact h p hp
  ·have hne:s.data.toList.drop i=[]:=List.length_eq_zero_iff.1 (by omega);rw [if_pos hne,jB s _ i hi];exact ⟨fun _ p hp =>(by cases hp),fun _ =>rfl⟩
end
end Go.Proofs.YthchopdfmchpkaaGreat
