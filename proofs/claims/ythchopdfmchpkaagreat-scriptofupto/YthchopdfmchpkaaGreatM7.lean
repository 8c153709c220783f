/- Texts of this claim, one behind the other. -/
import Derived.Test.YthchopdfmchpkaaGreatM6
namespace Go.Proofs.YthchopdfmchpkaaGreat
open Go.RowKit Go.Shelf
set_option linter.unusedVariables false
set_option maxRecDepth 100000
set_option maxHeartbeats 8000000
theorem qO (r:Int) (W:World):Calls Tryz.prog 181 #[.int .i32 r] W fun e w' =>e=.returned (.bool (Zi r))∧w'=W:=by
 by_cases h0:r < 128
 ·have hv:Zi r=true:=JS (Or.inl h0);rw [hv];clear hv;go_enter Tryz.func181,Tryz.ntmps181;go_wp2_with fail
  go_ret;exact ⟨rfl,rfl⟩
 ·by_cases h1:r=65533
  ·subst h1;have hv:Zi 65533=true:=by decide
   rw [hv];clear hv h0;go_enter Tryz.func181,Tryz.ntmps181;go_wp2_with fail
   go_ret;exact ⟨rfl,rfl⟩
  ·have e1:(r == 65533)=false:=by simpa using h1
   have hv:Zi r=false:=Zq (by omega);rw [hv];clear hv;go_enter Tryz.func181,Tryz.ntmps181;go_wp2_with fail
   go_ret;exact ⟨rfl,rfl⟩
theorem Jc (r:Int) (W:World):Calls Tryz.prog 183 #[.int .i32 r] W fun e w' =>e=.returned (.bool (Qw r))∧w'=W:=by
 by_cases h0:r < 32
 ·have hv:Qw r=true:=JS (Or.inl h0);rw [hv];clear hv;go_enter Tryz.func183,Tryz.ntmps183;go_wp2_with fail
  go_ret;exact ⟨rfl,rfl⟩
 ·by_cases h1:r=45
  ·subst h1;have hv:Qw 45=true:=by decide
   rw [hv];clear hv h0;go_enter Tryz.func183,Tryz.ntmps183;go_wp2_with fail
   go_ret;exact ⟨rfl,rfl⟩
  ·have e1:(r == 45)=false:=by simpa using h1
   by_cases h2:r=46
   ·subst h2;have hv:Qw 46=true:=by decide
    rw [hv];clear hv h0 e1;go_enter Tryz.func183,Tryz.ntmps183;go_wp2_with fail
    go_ret;exact ⟨rfl,rfl⟩
   ·have e2:(r == 46)=false:=by simpa using h2
    by_cases h3:r=65533
    ·subst h3;have hv:Qw 65533=true:=by decide
     rw [hv];clear hv h0 e1 e2;go_enter Tryz.func183,Tryz.ntmps183;go_wp2_with fail
     go_ret;exact ⟨rfl,rfl⟩
    ·have e3:(r == 65533)=false:=by simpa using h3
     have hv:Qw r=false:=Zq (by omega);rw [hv];clear hv;go_enter Tryz.func183,Tryz.ntmps183;go_wp2_with fail
     go_ret;exact ⟨rfl,rfl⟩
theorem XW (s:ByteArray) (hs:s.size≤1048576) (hok:okU s=true) (W:World):Calls Tryz.prog 182 #[.string s] W fun e w' =>e=.returned (.bool (Za s))∧Below W.heap.size W w':=by
 have HRU:=kz (Xm s hs W);have HOK:=kz hok;have HLN:Hz ((zk s).length≤1048576):=kz (by rw [j9];have:=zX s;omega);have HV:∃ mb,Hz ((zk s).any Qw=mb):=⟨_,kz rfl⟩;obtain ⟨mb,HV⟩:=HV;rw [show Za s=mb from oz HV];clear hok hs;go_enter Tryz.func182,Tryz.ntmps182;go_wp2_with fail
 refine (oz HRU).mono ?_;rintro e w0 ⟨hyes,_,hb⟩;obtain ⟨v,rfl,ho⟩:=hyes (oz HOK);obtain ⟨p,c,rfl,hR⟩:=Ju ho;have HR:=kz hR;have HB:=kz hb;clear hyes hb HRU HOK ho hR;generalize zk s=l at *;have hln:=oz HLN;clear HLN;go_wp2_with fail
 go_loopw [5] (fun i wr => ∃ k:Nat,k≤l.length∧i=.int .i64 k∧Hz (NoneB l Qw k)∧wr=w0) (fun i _ =>l.length - (intOf i).toNat)
 case atStart =>exact ⟨0,Zn _,rfl,kz (NoneB.zero _ _),rfl⟩
 case round =>
  obtain ⟨k,hk,rfl,HN,rfl⟩:=hrel;by_cases hkn:k < l.length
  ·obtain ⟨y,hy⟩:∃ y,l[k]?=some y:=⟨_,qR hkn⟩;obtain ⟨g,rfl,hg,c0⟩:=oz HR k y hy;have HK:=kz hy;have k1:(k:Int) < (l.length:Int):=by omega
   have k2:=Zp k
   have HA:=kz (fun w =>Jc y w);clear hg hy;cases hc:Qw y with
   | true =>
    rw [hc] at HA;have hm:mb=true:=by rw [← oz HV];exact Yl (oz HK) hc
    subst hm;clear HV HK HN hc;go_wp2_with fail
    refine (oz HA _).mono ?_;rintro e wx ⟨rfl,hw⟩;rw [hw];clear hw wx;go_wp2_with fail
    go_ret;exact ⟨rfl,oz HB⟩
   | false =>
    rw [hc] at HA;have HN2:=kz ((oz HN).next (oz HK) hc);clear HK HN hc;go_wp2_with fail
    refine (oz HA _).mono ?_;rintro e wx ⟨rfl,hw⟩;rw [hw];clear hw wx;go_wp2_with fail
    exact ⟨⟨k+1,by omega,by first | rfl | go_num,HN2,by first | trivial | rfl⟩,by simp [intOf];omega⟩
  ·have k1:¬ (k:Int) < (l.length:Int):=by omega
   have hm:mb=false:=by rw [← oz HV];exact (oz HN).any (by omega)
   subst hm;clear HV HN;go_wp2_with fail
   go_ret;exact ⟨rfl,oz HB⟩
theorem QX (T:TV) (hT:TabB T) (v:Value) (r:Int) (W:World) (hv:TbV W T v) :
  Calls Tryz.prog 103 #[v,.int .i32 r] W fun e w' =>e=.returned (.bool (zO T r))∧Below W.heap.size W w':=by
 obtain ⟨A,rfl,hA⟩:=hv;have HX:=kz (TbX.start hA);have z0:=(oz HX).z0;have z1:=(oz HX).z1;have z2:=(oz HX).z2;have z3:=(oz HX).z3;have z4:=(oz HX).z4;have z5:=(oz HX).z5;have z6:=(oz HX).z6;have z7:=(oz HX).z7;have HR:=kz (zy r);have HM:=kz (fun w (hv:TbV w T (.agg #[.slice A.a0 T.sc.length A.c0,.slice A.a1 T.co.length A.c1,.slice A.a2 T.ma.length A.c2,.slice A.a3 T.pr.length A.c3,.slice A.a4 T.fo.length A.c4,.slice A.a5 T.lk.length A.c5,.slice A.a6 T.dr.length A.c6,.slice A.a7 T.al.length A.c7])) =>ZG T hT.n2 _ r w hv);have HW:=kz (fun w (hv:TbV w T (.agg #[.slice A.a0 T.sc.length A.c0,.slice A.a1 T.co.length A.c1,.slice A.a2 T.ma.length A.c2,.slice A.a3 T.pr.length A.c3,.slice A.a4 T.fo.length A.c4,.slice A.a5 T.lk.length A.c5,.slice A.a6 T.dr.length A.c6,.slice A.a7 T.al.length A.c7])) =>YQ T hT.n3 _ r w hv);have HO:=kz (fun a c w (hv:RowC w w.heap.size a (zM T.dr)) =>XM T.dr hT.n6 a c r w hv);have HF:=kz (fun a c w (hv:RowC w w.heap.size a (yW T.fo)) =>qU T.fo hT.n4 a c r w hv);have HP:∃ pb,Hz (zO T r=pb):=⟨_,kz rfl⟩;obtain ⟨pb,HP⟩:=HP;rw [oz HP];clear hA hT;cases r0:zm r with
 | false =>
  obtain rfl:pb=false:=by rw [← oz HP];unfold zO;rw [r0];rfl
  rw [r0] at HR;clear HP r0;go_enter Tryz.func103,Tryz.ntmps103;go_wp2_with fail
  generalize W.alloc _=w0 at *;refine (oz HR _).mono ?_;rintro e wx ⟨rfl,hw⟩;rw [hw];clear hw wx;go_wp2_with fail
  go_ret;exact ⟨rfl,(oz HX).bl⟩
 | true =>
  rw [r0] at HR;cases r1:yJ T r with
  | true =>
   obtain rfl:pb=false:=by rw [← oz HP];unfold zO;rw [r0,r1];rfl
   rw [r1] at HM;clear HP r0 r1;go_enter Tryz.func103,Tryz.ntmps103;go_wp2_with fail
   generalize W.alloc _=w0 at *;refine (oz HR _).mono ?_;rintro e wx ⟨rfl,hw⟩;rw [hw];clear hw wx;go_wp2_with fail
   refine (oz HM _ (oz HX).tv).mono ?_;rintro e w1 ⟨rfl,hb⟩;have HX1:=kz ((oz HX).below hb);clear z0 z1 z2 z3 z4 z5 z6 z7;clear hb HM HX;go_wp2_with fail
   go_ret;exact ⟨rfl,(oz HX1).bl⟩
  | false =>
   rw [r1] at HM;cases r2:XU T r with
   | true =>
    obtain rfl:pb=false:=by rw [← oz HP];unfold zO;rw [r0,r1,r2];rfl
    have hi:¬ XJ T.pr (fun x =>x.1 == r) < 0:=by
     have:=Xj T.pr (fun x =>x.1 == r);rw [show T.pr.any (fun x =>x.1 == r)=true from r2] at this;exact of_decide_eq_false this
    generalize XJ T.pr (fun x =>x.1 == r)=ii at *;clear HP r0 r1 r2;go_enter Tryz.func103,Tryz.ntmps103;go_wp2_with fail
    generalize W.alloc _=w0 at *;refine (oz HR _).mono ?_;rintro e wx ⟨rfl,hw⟩;rw [hw];clear hw wx;go_wp2_with fail
    refine (oz HM _ (oz HX).tv).mono ?_;rintro e w1 ⟨rfl,hb⟩;have HX1:=kz ((oz HX).below hb);clear z0 z1 z2 z3 z4 z5 z6 z7;clear hb HM HX;have z0:=(oz HX1).z0;have z1:=(oz HX1).z1;have z2:=(oz HX1).z2;have z3:=(oz HX1).z3;have z4:=(oz HX1).z4;have z5:=(oz HX1).z5;have z6:=(oz HX1).z6;have z7:=(oz HX1).z7;go_wp2_with fail
    refine (oz HW _ (oz HX1).tv).mono ?_;rintro e w2 ⟨rfl,hb⟩;have HX2:=kz ((oz HX1).below hb);clear z0 z1 z2 z3 z4 z5 z6 z7;clear hb HW HX1;go_wp2_with fail
    go_ret;exact ⟨rfl,(oz HX2).bl⟩
   | false =>
    have hi:XJ T.pr (fun x =>x.1 == r) < 0:=by
     have:=Xj T.pr (fun x =>x.1 == r);rw [show T.pr.any (fun x =>x.1 == r)=false from r2] at this;exact of_decide_eq_true this
    generalize XJ T.pr (fun x =>x.1 == r)=ii at *;cases r3:drB T r with
    | true =>
     obtain rfl:pb=false:=by rw [← oz HP];unfold zO;rw [r0,r1,r2,r3];rfl
     rw [show zi T.dr r=true from r3] at HO;clear HP r0 r1 r2 r3;go_enter Tryz.func103,Tryz.ntmps103;go_wp2_with fail
     generalize W.alloc _=w0 at *;refine (oz HR _).mono ?_;rintro e wx ⟨rfl,hw⟩;rw [hw];clear hw wx;go_wp2_with fail
     refine (oz HM _ (oz HX).tv).mono ?_;rintro e w1 ⟨rfl,hb⟩;have HX1:=kz ((oz HX).below hb);clear z0 z1 z2 z3 z4 z5 z6 z7;clear hb HM HX;have z0:=(oz HX1).z0;have z1:=(oz HX1).z1;have z2:=(oz HX1).z2;have z3:=(oz HX1).z3;have z4:=(oz HX1).z4;have z5:=(oz HX1).z5;have z6:=(oz HX1).z6;have z7:=(oz HX1).z7;go_wp2_with fail
     refine (oz HW _ (oz HX1).tv).mono ?_;rintro e w2 ⟨rfl,hb⟩;have HX2:=kz ((oz HX1).below hb);clear z0 z1 z2 z3 z4 z5 z6 z7;clear hb HW HX1;have z6:=(oz HX2).z6;go_wp2_with fail
     refine (oz HO _ _ _ (oz HX2).ti.r6).mono ?_;rintro e wx ⟨rfl,hw⟩;rw [hw];clear hw wx;go_wp2_with fail
     go_ret;exact ⟨rfl,(oz HX2).bl⟩
    | false =>
     rw [show zi T.dr r=false from r3] at HO;cases r4:Yd T.fo r with
     | true =>
      obtain rfl:pb=false:=by rw [← oz HP];unfold zO;rw [r0,r1,r2,r3,r4];rfl
      have hj:¬ XJ T.fo (fun x =>x.1 == r) < 0:=by
       have:=Xj T.fo (fun x =>x.1 == r);rw [show T.fo.any (fun x =>x.1 == r)=true from r4] at this;exact of_decide_eq_false this
      generalize XJ T.fo (fun x =>x.1 == r)=jj at *;clear HP r0 r1 r2 r3 r4;go_enter Tryz.func103,Tryz.ntmps103;go_wp2_with fail
      generalize W.alloc _=w0 at *;refine (oz HR _).mono ?_;rintro e wx ⟨rfl,hw⟩;rw [hw];clear hw wx;go_wp2_with fail
      refine (oz HM _ (oz HX).tv).mono ?_;rintro e w1 ⟨rfl,hb⟩;have HX1:=kz ((oz HX).below hb);clear z0 z1 z2 z3 z4 z5 z6 z7;clear hb HM HX;have z0:=(oz HX1).z0;have z1:=(oz HX1).z1;have z2:=(oz HX1).z2;have z3:=(oz HX1).z3;have z4:=(oz HX1).z4;have z5:=(oz HX1).z5;have z6:=(oz HX1).z6;have z7:=(oz HX1).z7;go_wp2_with fail
      refine (oz HW _ (oz HX1).tv).mono ?_;rintro e w2 ⟨rfl,hb⟩;have HX2:=kz ((oz HX1).below hb);clear z0 z1 z2 z3 z4 z5 z6 z7;clear hb HW HX1;have z6:=(oz HX2).z6;have z4:=(oz HX2).z4;go_wp2_with fail
      refine (oz HO _ _ _ (oz HX2).ti.r6).mono ?_;rintro e wx ⟨rfl,hw⟩;rw [hw];clear hw wx;go_wp2_with fail
      refine (oz HF _ _ _ (oz HX2).ti.r4).mono ?_;rintro e wx ⟨rfl,hw⟩;rw [hw];clear hw wx;go_wp2_with fail
      go_ret;exact ⟨by first | rfl | simp [hj],(oz HX2).bl⟩
     | false =>
      obtain rfl:pb=true:=by rw [← oz HP];unfold zO;rw [r0,r1,r2,r3,r4];rfl
      have hj:XJ T.fo (fun x =>x.1 == r) < 0:=by
       have:=Xj T.fo (fun x =>x.1 == r);rw [show T.fo.any (fun x =>x.1 == r)=false from r4] at this;exact of_decide_eq_true this
      generalize XJ T.fo (fun x =>x.1 == r)=jj at *;clear HP r0 r1 r2 r3 r4;go_enter Tryz.func103,Tryz.ntmps103;go_wp2_with fail
      generalize W.alloc _=w0 at *;refine (oz HR _).mono ?_;rintro e wx ⟨rfl,hw⟩;rw [hw];clear hw wx;go_wp2_with fail
      refine (oz HM _ (oz HX).tv).mono ?_;rintro e w1 ⟨rfl,hb⟩;have HX1:=kz ((oz HX).below hb);clear z0 z1 z2 z3 z4 z5 z6 z7;clear hb HM HX;have z0:=(oz HX1).z0;have z1:=(oz HX1).z1;have z2:=(oz HX1).z2;have z3:=(oz HX1).z3;have z4:=(oz HX1).z4;have z5:=(oz HX1).z5;have z6:=(oz HX1).z6;have z7:=(oz HX1).z7;go_wp2_with fail
      refine (oz HW _ (oz HX1).tv).mono ?_;rintro e w2 ⟨rfl,hb⟩;have HX2:=kz ((oz HX1).below hb);clear z0 z1 z2 z3 z4 z5 z6 z7;clear hb HW HX1;have z6:=(oz HX2).z6;have z4:=(oz HX2).z4;go_wp2_with fail
      refine (oz HO _ _ _ (oz HX2).ti.r6).mono ?_;rintro e wx ⟨rfl,hw⟩;rw [hw];clear hw wx;go_wp2_with fail
      refine (oz HF _ _ _ (oz HX2).ti.r4).mono ?_;rintro e wx ⟨rfl,hw⟩;rw [hw];clear hw wx;go_wp2_with fail
      go_ret;exact ⟨by first | rfl | simp [hj],(oz HX2).bl⟩
def chI:Option Nat→Int
 | none => -1
 | some n =>(n:Int)
theorem zgs {T:TV} {f:Nat} {b:Int} {n:Nat} (h:jI T b=none):Xf T (f+1) b n=some n:=by
 show (match jI T b with | none =>some n | some q =>Xf T f q.2.1 (n+1))=some n;rw [h]
theorem zgt {T:TV} {f:Nat} {b:Int} {n:Nat} {q:Int × Int × Int} (h:jI T b=some q):Xf T (f+1) b n=Xf T f q.2.1 (n+1):=by
 show (match jI T b with | none =>some n | some q =>Xf T f q.2.1 (n+1))=_;rw [h]
theorem zct (T:TV) (hT:T.pr.length≤1048576) (v:Value) (k0:Nat) (x0:Int × Int × Int) (hx0:T.pr[k0]?=some x0) (W:World) (hv:TbV W T v) :
  Calls Tryz.prog 100 #[v,.int .i64 k0] W fun e w' =>e=.returned (.int .i64 (chI (Xf T T.pr.length x0.2.1 1)))∧Below W.heap.size W w':=by
 obtain ⟨A,rfl,hA⟩:=hv;have HX:=kz (TbX.start hA);have HW:=kz (fun r w (hv:TbV w T (.agg #[.slice A.a0 T.sc.length A.c0,.slice A.a1 T.co.length A.c1,.slice A.a2 T.ma.length A.c2,.slice A.a3 T.pr.length A.c3,.slice A.a4 T.fo.length A.c4,.slice A.a5 T.lk.length A.c5,.slice A.a6 T.dr.length A.c6,.slice A.a7 T.al.length A.c7])) =>YQ T hT _ r w hv);have HV:∃ mb,Hz (Xf T T.pr.length x0.2.1 1=mb):=⟨_,kz rfl⟩;obtain ⟨mb,HV⟩:=HV;rw [oz HV];have HK0:=kz hx0;clear hA hx0;go_enter Tryz.func100,Tryz.ntmps100;go_wp2_with fail
 generalize W.alloc _=w0 at *;go_loopw [1,5] (fun iv nv wr => ∃ (k n f:Nat) (x:Int × Int × Int),iv=.int .i64 k∧nv=.int .i64 n∧n+f=T.pr.length+1∧Hz (T.pr[k]?=some x)∧Hz (Xf T f x.2.1 n=mb)∧Hz (TbX W wr T A)) (fun _ nv _ =>T.pr.length+1 - (intOf nv).toNat)
 case atStart =>exact ⟨k0,1,T.pr.length,x0,rfl,rfl,by omega,HK0,HV,HX⟩
 case round =>
  clear HX HV HK0;obtain ⟨k,n,f,x,rfl,rfl,hnf,HK,HV,HX⟩:=hrel;have z3:=(oz HX).z3;by_cases hn:n≤T.pr.length
  ·obtain ⟨f,rfl⟩:∃ f',f=f' + 1:=⟨f - 1,by omega⟩;have n1:(n:Int)≤(T.pr.length:Int):=by omega
   obtain ⟨g,o,ea,hg,c0,c1,c2⟩:=zdV (oz HX).ti.r3 (oz HK);have hkl:=(Ze.1 (oz HK)).1;have k1:(k:Int) < (T.pr.length:Int):=by omega
   have k2:=Zp k
   have y1:=zP c1;have y0:=zP (oz HX).z0;have w1z:=zP (oz HX).z1;have y2:=zP (oz HX).z2;have y3:=zP (oz HX).z3;have y4:=zP (oz HX).z4;have y5:=zP (oz HX).z5;have y6:=zP (oz HX).z6;have y7:=zP (oz HX).z7;have HC:=kz (fun w' (hb:Below wr.heap.size wr w') =>oz HW x.2.1 w' ((oz HX).tv.below hb));rw [ea] at z3 y3 HC;have HN3:Hz (n+f=T.pr.length):=kz (by omega);clear c0 c1 c2 hg ea hkl hnf;rcases JN T.pr (fun y =>y.1 == x.2.1) with ⟨e1,_,e3⟩ | ⟨j,q,e1,hj,hq,_,_,e3,_⟩
   ·have hm:mb=some n:=by rw [← oz HV];exact zgs e3
    subst hm;rw [e1] at HC;clear HV HK e1 e3;go_wp2_with fail
    refine JG (by kernel_rfl) (by kernel_rfl) ?_;repeat (go_big_quiet_step (exact QH (oz HC _ (Xu _ _ _))))
    first | refine wpQuiet_nil ?_ | skip
    rintro w' ⟨p,rfl⟩;have HBq:=kz (Xu wr p.d p.os);generalize Go.Sort.grow (redrawn wr p.d) p.os=w1 at *;have HX1:=kz ((oz HX).below (oz HBq));clear y0 y1 w1z y2 y3 y4 y5 y6 y7 z3 HC;go_wp2_with fail
    go_ret;exact ⟨rfl,(oz HX1).bl⟩
   ·have HQ:=kz hq;have HV2:Hz (Xf T f q.2.1 (n+1)=mb):=kz (by rw [← oz HV];exact (zgt e3).symm);have hj0:¬ ((j:Nat):Int) < 0:=by omega
    rw [e1] at HC;clear HV HK e1 e3 hq hj;go_wp2_with fail
    refine JG (by kernel_rfl) (by kernel_rfl) ?_;repeat (go_big_quiet_step (exact QH (oz HC _ (Xu _ _ _))))
    first | refine wpQuiet_nil ?_ | skip
    rintro w' ⟨p,rfl⟩;have HBq:=kz (Xu wr p.d p.os);generalize Go.Sort.grow (redrawn wr p.d) p.os=w1 at *;have HX1:=kz ((oz HX).below (oz HBq));clear y0 y1 w1z y2 y3 y4 y5 y6 y7 z3 HC;go_wp2_with fail
    exact ⟨⟨j,n+1,f,q,rfl,by first | rfl | go_num,by have:=oz HN3;omega,HQ,HV2,HX1⟩,by simp [intOf];omega⟩
  ·have n1:¬ (n:Int)≤(T.pr.length:Int):=by omega
   obtain rfl:f=0:=by omega
   have hm:mb=none:=(oz HV).symm;subst hm;clear HV HK;go_wp2_with fail
   go_ret;exact ⟨rfl,(oz HX).bl⟩
def zfi (T:TV) (x:Int × Int):Int:=if drB T x.1 then 37 else 0
def zbq (T:TV) (x:Int × Int × Int):Int:=if drB T x.1 || (drB T x.2.1 || drB T x.2.2) then 37 else 0
def Kc (T:TV) (x:Int × ByteArray):Int:=if drB T x.1 then 37 else 0
theorem zN {α : Type} {P:Program} {c:Code} {Q:Exit→Act→World→Prop} {F : α→Act} {a:Act} {w:World} (ha:∃ U,a=F U) (h:∀ U,Code.wp P c Q (F U) w):Code.wp P c Q a w:=by
 obtain ⟨U,rfl⟩:=ha;exact h U
def Yq (W:World) (U:Nat→Value):Act:={ tmps:=#[U 0,.pointer (some ⟨W.heap.size,0,none⟩),.pointer (some ⟨W.heap.size+1,0,none⟩),U 3,U 4,U 5,U 6,U 7,U 8,U 9,U 10,U 11,U 12,U 13,U 14,U 15,U 16,U 17,U 18,U 19,U 20,U 21,U 22,U 23,U 24,U 25,U 26,U 27,U 28,U 29,U 30,U 31,U 32,U 33,U 34,U 35,U 36,U 37,U 38,U 39,U 40,U 41,U 42,U 43,U 44,U 45,U 46,U 47,U 48,U 49,U 50,U 51,U 52,U 53,U 54,U 55,U 56,U 57,U 58,U 59,U 60,U 61,U 62,U 63,U 64,U 65,U 66,U 67,U 68,U 69,U 70,U 71,U 72,U 73,U 74,U 75,U 76,U 77,U 78,U 79,U 80,U 81,U 82,U 83,U 84,U 85,U 86,U 87,U 88,U 89,U 90,U 91,U 92,U 93,U 94,U 95,U 96,U 97,U 98,U 99,U 100,U 101],defers := [] }
noncomputable def uaDa:Code:=match Tryz.f65.body with
 | some (.seq _ (.seq c _)) =>c
 | _ =>.skip
theorem zhg (T:TV) (hT:TabB T) (A:TbA) (W w:World)  (h:RxS W w T A) (U:Nat→Value) {Q:Exit→Act→World→Prop}
  (hN:zg 3 T.ma ma0 (zfi T)=(0,0,0)→∀ (a:Act) (wn:World),(∃ U',a=Yq W U')→Hz (RxT W w wn T A)→Q .normal a wn)
  (hR:∀ (y k:Int),zg 3 T.ma ma0 (zfi T)=(y,3,k)→y≠0→∀ (a:Act) (wn:World),a.tmps.getD 2 undef=.pointer (some ⟨W.heap.size+1,0,none⟩)→a.defers=[]→Hz (RxD W wn (y,3,k))→Q .ret a wn) :
  Code.wp Tryz.prog uaDa Q (Yq W U) w:=by
 have HN:=kz hN;have HR:=kz hR;have HX:=kz (RxT.refl h);have hln:=hT.n2;have HC:=kz (fun r b (hb:zi T.dr r=b) a c w (hv:RowC w w.heap.size a (zM T.dr)) =>by have:=XM T.dr hT.n6 a c r w hv;rwa [hb] at this);clear hN hR h
 delta uaDa Tryz.f65 Yq at *
 dsimp only;go_wp2_with fail
 go_loopw [3] (fun i wr => ∃ k:Nat,k≤T.ma.length∧i=.int .i64 k∧Hz (OkTo T.ma ma0 (zfi T) k)∧Hz (RxT W w wr T A)) (fun i _ =>T.ma.length - (intOf i).toNat)
 case atStart =>exact ⟨0,Zn _,rfl,kz (OkTo.zero _ _ _),HX⟩
 case round =>
  clear HX;obtain ⟨k,hk,rfl,HO,HX⟩:=hrel;by_cases hkn:k < T.ma.length
  ·obtain ⟨x,hx⟩:∃ x,T.ma[k]?=some x:=⟨_,qR hkn⟩;obtain ⟨g,o,ea,hg,c0,c1⟩:=zgE (oz HX).rx.tb.ti.r2 hx;have HK:=kz hx;have HG:=kz hg;have k1:(k:Int) < (T.ma.length:Int):=by omega
   have k2:=Zp k
   have zz:=(oz HX).rx.tb.z2;rw [ea] at zz;clear hg hx;cases h1:drB T x.1 with
   | true =>
    have hf:zfi T x=37:=by unfold zfi;rw [h1];rfl
    have HE:=kz ((oz HO).bad (oz HK) 3 (by rw [hf];decide));rw [hf] at HE;clear hf HO HK;have y0:=zP c0;have y6:=zP (oz HX).rx.tb.z6;have yz:=zP zz;have mh1:zi T.dr x.1=true:=h1;clear h1;go_wp2_with fail
    refine JG (by kernel_rfl) (by kernel_rfl) ?_;repeat (go_big_quiet_step (exact QH ((oz HC _ _ (by assumption) _ _ _ ((oz HX).rx.tb.ti.r6.below (Xu wr _ _) (Xu wr _ _).size)).mono (fun e w2 h =>⟨h.1,h.2 ▸ zl⟩))))
    first | refine wpQuiet_nil ?_ | skip
    rintro w' ⟨p,rfl⟩;have HBq:=kz (Xu wr p.d p.os);generalize Go.Sort.grow (redrawn wr p.d) p.os=w1 at *;have HX1:=kz ((oz HX).below (oz HBq));clear y0 y6 yz HC HX zz;have r0:=(oz HX1).rx.rs.cell 0;have f0:=(oz HX1).rx.rs.frozen 0;have r1:=(oz HX1).rx.rs.cell 1;have f1:=(oz HX1).rx.rs.frozen 1;have r2:=(oz HX1).rx.rs.cell 2;have f2:=(oz HX1).rx.rs.frozen 2;go_wp2_with fail
    exact oz HR _ _ (oz HE) (by decide) _ _ rfl rfl (kz ((oz HX1).put _ _ _))
   | false =>
    have hf:zfi T x=0:=by unfold zfi;rw [h1];rfl
    have HO2:=kz ((oz HO).next (oz HK) hf);clear hf HO HK;have y0:=zP c0;have y6:=zP (oz HX).rx.tb.z6;have yz:=zP zz;have mh1:zi T.dr x.1=false:=h1;clear h1;go_wp2_with fail
    refine JG (by kernel_rfl) (by kernel_rfl) ?_;repeat (go_big_quiet_step (exact QH ((oz HC _ _ (by assumption) _ _ _ ((oz HX).rx.tb.ti.r6.below (Xu wr _ _) (Xu wr _ _).size)).mono (fun e w2 h =>⟨h.1,h.2 ▸ zl⟩))))
    first | refine wpQuiet_nil ?_ | skip
    rintro w' ⟨p,rfl⟩;have HBq:=kz (Xu wr p.d p.os);generalize Go.Sort.grow (redrawn wr p.d) p.os=w1 at *;have HX1:=kz ((oz HX).below (oz HBq));clear y0 y6 yz HC HX zz;go_wp2_with fail
    exact ⟨⟨k+1,by omega,by first | rfl | go_num,HO2,HX1⟩,by simp [intOf];omega⟩
  ·have k1:¬ (k:Int) < (T.ma.length:Int):=by omega
   have zz:=(oz HX).rx.tb.z2;have HE:=kz ((oz HO).ok (by omega) 3);clear HO HR;go_wp2_with fail
   exact oz HN (oz HE) _ _ (zq rfl) HX
noncomputable def uaDb:Code:=match Tryz.f65.body with
 | some (.seq _ (.seq _ (.seq c _))) =>c
 | _ =>.skip
theorem zhf (T:TV) (hT:TabB T) (A:TbA) (W w:World)  (h:RxS W w T A) (U:Nat→Value) {Q:Exit→Act→World→Prop}
  (hN:zg 4 T.pr pr0 (zbq T)=(0,0,0)→∀ (a:Act) (wn:World),(∃ U',a=Yq W U')→Hz (RxT W w wn T A)→Q .normal a wn)
  (hR:∀ (y k:Int),zg 4 T.pr pr0 (zbq T)=(y,4,k)→y≠0→∀ (a:Act) (wn:World),a.tmps.getD 2 undef=.pointer (some ⟨W.heap.size+1,0,none⟩)→a.defers=[]→Hz (RxD W wn (y,4,k))→Q .ret a wn) :
  Code.wp Tryz.prog uaDb Q (Yq W U) w:=by
 have HN:=kz hN;have HR:=kz hR;have HX:=kz (RxT.refl h);have hln:=hT.n3;have HC:=kz (fun r b (hb:zi T.dr r=b) a c w (hv:RowC w w.heap.size a (zM T.dr)) =>by have:=XM T.dr hT.n6 a c r w hv;rwa [hb] at this);clear hN hR h
 delta uaDb Tryz.f65 Yq at *
 dsimp only;go_wp2_with fail
 go_loopw [4] (fun i wr => ∃ k:Nat,k≤T.pr.length∧i=.int .i64 k∧Hz (OkTo T.pr pr0 (zbq T) k)∧Hz (RxT W w wr T A)) (fun i _ =>T.pr.length - (intOf i).toNat)
 case atStart =>exact ⟨0,Zn _,rfl,kz (OkTo.zero _ _ _),HX⟩
 case round =>
  clear HX;obtain ⟨k,hk,rfl,HO,HX⟩:=hrel;by_cases hkn:k < T.pr.length
  ·obtain ⟨x,hx⟩:∃ x,T.pr[k]?=some x:=⟨_,qR hkn⟩;obtain ⟨g,o,ea,hg,c0,c1,c2⟩:=zdV (oz HX).rx.tb.ti.r3 hx;have HK:=kz hx;have HG:=kz hg;have k1:(k:Int) < (T.pr.length:Int):=by omega
   have k2:=Zp k
   have zz:=(oz HX).rx.tb.z3;rw [ea] at zz;clear hg hx;cases h1:drB T x.1 with
   | true =>
    have hf:zbq T x=37:=by unfold zbq;rw [h1];rfl
    have HE:=kz ((oz HO).bad (oz HK) 4 (by rw [hf];decide));rw [hf] at HE;clear hf HO HK;have y0:=zP c0;have y1:=zP c1;have y2:=zP c2;have y6:=zP (oz HX).rx.tb.z6;have yz:=zP zz;have mh1:zi T.dr x.1=true:=h1;clear h1;go_wp2_with fail
    refine JG (by kernel_rfl) (by kernel_rfl) ?_;repeat (go_big_quiet_step (exact QH ((oz HC _ _ (by assumption) _ _ _ ((oz HX).rx.tb.ti.r6.below (Xu wr _ _) (Xu wr _ _).size)).mono (fun e w2 h =>⟨h.1,h.2 ▸ zl⟩))))
    first | refine wpQuiet_nil ?_ | skip
    rintro w' ⟨p,rfl⟩;have HBq:=kz (Xu wr p.d p.os);generalize Go.Sort.grow (redrawn wr p.d) p.os=w1 at *;have HX1:=kz ((oz HX).below (oz HBq));clear y0 y1 y2 y6 yz HC HX zz;have r0:=(oz HX1).rx.rs.cell 0;have f0:=(oz HX1).rx.rs.frozen 0;have r1:=(oz HX1).rx.rs.cell 1;have f1:=(oz HX1).rx.rs.frozen 1;have r2:=(oz HX1).rx.rs.cell 2;have f2:=(oz HX1).rx.rs.frozen 2;go_wp2_with fail
    exact oz HR _ _ (oz HE) (by decide) _ _ rfl rfl (kz ((oz HX1).put _ _ _))
   | false =>
    cases h2:drB T x.2.1 with
    | true =>
     have hf:zbq T x=37:=by unfold zbq;rw [h1,h2];rfl
     have HE:=kz ((oz HO).bad (oz HK) 4 (by rw [hf];decide));rw [hf] at HE;clear hf HO HK;have y0:=zP c0;have y1:=zP c1;have y2:=zP c2;have y6:=zP (oz HX).rx.tb.z6;have yz:=zP zz;have mh1:zi T.dr x.1=false:=h1;have mh2:zi T.dr x.2.1=true:=h2;clear h1 h2;go_wp2_with fail
     refine JG (by kernel_rfl) (by kernel_rfl) ?_;repeat (go_big_quiet_step (exact QH ((oz HC _ _ (by assumption) _ _ _ ((oz HX).rx.tb.ti.r6.below (Xu wr _ _) (Xu wr _ _).size)).mono (fun e w2 h =>⟨h.1,h.2 ▸ zl⟩))))
     first | refine wpQuiet_nil ?_ | skip
     rintro w' ⟨p,rfl⟩;have HBq:=kz (Xu wr p.d p.os);generalize Go.Sort.grow (redrawn wr p.d) p.os=w1 at *;have HX1:=kz ((oz HX).below (oz HBq));clear y0 y1 y2 y6 yz HC HX zz;have r0:=(oz HX1).rx.rs.cell 0;have f0:=(oz HX1).rx.rs.frozen 0;have r1:=(oz HX1).rx.rs.cell 1;have f1:=(oz HX1).rx.rs.frozen 1;have r2:=(oz HX1).rx.rs.cell 2;have f2:=(oz HX1).rx.rs.frozen 2;go_wp2_with fail
     exact oz HR _ _ (oz HE) (by decide) _ _ rfl rfl (kz ((oz HX1).put _ _ _))
    | false =>
     cases h3:drB T x.2.2 with
     | true =>
      have hf:zbq T x=37:=by unfold zbq;rw [h1,h2,h3];rfl
      have HE:=kz ((oz HO).bad (oz HK) 4 (by rw [hf];decide));rw [hf] at HE;clear hf HO HK;have y0:=zP c0;have y1:=zP c1;have y2:=zP c2;have y6:=zP (oz HX).rx.tb.z6;have yz:=zP zz;have mh1:zi T.dr x.1=false:=h1;have mh2:zi T.dr x.2.1=false:=h2;have mh3:zi T.dr x.2.2=true:=h3;clear h1 h2 h3;go_wp2_with fail
      refine JG (by kernel_rfl) (by kernel_rfl) ?_;repeat (go_big_quiet_step (exact QH ((oz HC _ _ (by assumption) _ _ _ ((oz HX).rx.tb.ti.r6.below (Xu wr _ _) (Xu wr _ _).size)).mono (fun e w2 h =>⟨h.1,h.2 ▸ zl⟩))))
      first | refine wpQuiet_nil ?_ | skip
      rintro w' ⟨p,rfl⟩;have HBq:=kz (Xu wr p.d p.os);generalize Go.Sort.grow (redrawn wr p.d) p.os=w1 at *;have HX1:=kz ((oz HX).below (oz HBq));clear y0 y1 y2 y6 yz HC HX zz;have r0:=(oz HX1).rx.rs.cell 0;have f0:=(oz HX1).rx.rs.frozen 0;have r1:=(oz HX1).rx.rs.cell 1;have f1:=(oz HX1).rx.rs.frozen 1;have r2:=(oz HX1).rx.rs.cell 2;have f2:=(oz HX1).rx.rs.frozen 2;go_wp2_with fail
      exact oz HR _ _ (oz HE) (by decide) _ _ rfl rfl (kz ((oz HX1).put _ _ _))
     | false =>
      have hf:zbq T x=0:=by unfold zbq;rw [h1,h2,h3];rfl
      have HO2:=kz ((oz HO).next (oz HK) hf);clear hf HO HK;have y0:=zP c0;have y1:=zP c1;have y2:=zP c2;have y6:=zP (oz HX).rx.tb.z6;have yz:=zP zz;have mh1:zi T.dr x.1=false:=h1;have mh2:zi T.dr x.2.1=false:=h2;have mh3:zi T.dr x.2.2=false:=h3;clear h1 h2 h3;go_wp2_with fail
      refine JG (by kernel_rfl) (by kernel_rfl) ?_;repeat (go_big_quiet_step (exact QH ((oz HC _ _ (by assumption) _ _ _ ((oz HX).rx.tb.ti.r6.below (Xu wr _ _) (Xu wr _ _).size)).mono (fun e w2 h =>⟨h.1,h.2 ▸ zl⟩))))
      first | refine wpQuiet_nil ?_ | skip
      rintro w' ⟨p,rfl⟩;have HBq:=kz (Xu wr p.d p.os);generalize Go.Sort.grow (redrawn wr p.d) p.os=w1 at *;have HX1:=kz ((oz HX).below (oz HBq));clear y0 y1 y2 y6 yz HC HX zz;go_wp2_with fail
      exact ⟨⟨k+1,by omega,by first | rfl | go_num,HO2,HX1⟩,by simp [intOf];omega⟩
  ·have k1:¬ (k:Int) < (T.pr.length:Int):=by omega
   have zz:=(oz HX).rx.tb.z3;have HE:=kz ((oz HO).ok (by omega) 4);clear HO HR;go_wp2_with fail
   exact oz HN (oz HE) _ _ (zq rfl) HX
noncomputable def uaDc:Code:=match Tryz.f65.body with
 | some (.seq _ (.seq _ (.seq _ (.seq c _)))) =>c
 | _ =>.skip
theorem zhe (T:TV) (hT:TabB T) (A:TbA) (W w:World)  (h:RxS W w T A) (U:Nat→Value) {Q:Exit→Act→World→Prop}
  (hN:zg 5 T.fo mp0 (Kc T)=(0,0,0)→∀ (a:Act) (wn:World),(∃ U',a=Yq W U')→Hz (RxT W w wn T A)→Q .normal a wn)
  (hR:∀ (y k:Int),zg 5 T.fo mp0 (Kc T)=(y,5,k)→y≠0→∀ (a:Act) (wn:World),a.tmps.getD 2 undef=.pointer (some ⟨W.heap.size+1,0,none⟩)→a.defers=[]→Hz (RxD W wn (y,5,k))→Q .ret a wn) :
  Code.wp Tryz.prog uaDc Q (Yq W U) w:=by
 have HN:=kz hN;have HR:=kz hR;have HX:=kz (RxT.refl h);have hln:=hT.n4;have HC:=kz (fun r b (hb:zi T.dr r=b) a c w (hv:RowC w w.heap.size a (zM T.dr)) =>by have:=XM T.dr hT.n6 a c r w hv;rwa [hb] at this);clear hN hR h
 delta uaDc Tryz.f65 Yq at *
 dsimp only;go_wp2_with fail
 go_loopw [5] (fun i wr => ∃ k:Nat,k≤T.fo.length∧i=.int .i64 k∧Hz (OkTo T.fo mp0 (Kc T) k)∧Hz (RxT W w wr T A)) (fun i _ =>T.fo.length - (intOf i).toNat)
 case atStart =>exact ⟨0,Zn _,rfl,kz (OkTo.zero _ _ _),HX⟩
 case round =>
  clear HX;obtain ⟨k,hk,rfl,HO,HX⟩:=hrel;by_cases hkn:k < T.fo.length
  ·obtain ⟨x,hx⟩:∃ x,T.fo[k]?=some x:=⟨_,qR hkn⟩;obtain ⟨g,o,ea,hg,c0,c1⟩:=za8 (oz HX).rx.tb.ti.r4 hx;have HK:=kz hx;have HG:=kz hg;have k1:(k:Int) < (T.fo.length:Int):=by omega
   have k2:=Zp k
   have zz:=(oz HX).rx.tb.z4;rw [ea] at zz;clear hg hx;cases h1:drB T x.1 with
   | true =>
    have hf:Kc T x=37:=by unfold Kc;rw [h1];rfl
    have HE:=kz ((oz HO).bad (oz HK) 5 (by rw [hf];decide));rw [hf] at HE;clear hf HO HK;have y0:=zP c0;have y6:=zP (oz HX).rx.tb.z6;have yz:=zP zz;have mh1:zi T.dr x.1=true:=h1;clear h1;go_wp2_with fail
    refine JG (by kernel_rfl) (by kernel_rfl) ?_;repeat (go_big_quiet_step (exact QH ((oz HC _ _ (by assumption) _ _ _ ((oz HX).rx.tb.ti.r6.below (Xu wr _ _) (Xu wr _ _).size)).mono (fun e w2 h =>⟨h.1,h.2 ▸ zl⟩))))
    first | refine wpQuiet_nil ?_ | skip
    rintro w' ⟨p,rfl⟩;have HBq:=kz (Xu wr p.d p.os);generalize Go.Sort.grow (redrawn wr p.d) p.os=w1 at *;have HX1:=kz ((oz HX).below (oz HBq));clear y0 y6 yz HC HX zz;have r0:=(oz HX1).rx.rs.cell 0;have f0:=(oz HX1).rx.rs.frozen 0;have r1:=(oz HX1).rx.rs.cell 1;have f1:=(oz HX1).rx.rs.frozen 1;have r2:=(oz HX1).rx.rs.cell 2;have f2:=(oz HX1).rx.rs.frozen 2;go_wp2_with fail
    exact oz HR _ _ (oz HE) (by decide) _ _ rfl rfl (kz ((oz HX1).put _ _ _))
   | false =>
    have hf:Kc T x=0:=by unfold Kc;rw [h1];rfl
    have HO2:=kz ((oz HO).next (oz HK) hf);clear hf HO HK;have y0:=zP c0;have y6:=zP (oz HX).rx.tb.z6;have yz:=zP zz;have mh1:zi T.dr x.1=false:=h1;clear h1;go_wp2_with fail
    refine JG (by kernel_rfl) (by kernel_rfl) ?_;repeat (go_big_quiet_step (exact QH ((oz HC _ _ (by assumption) _ _ _ ((oz HX).rx.tb.ti.r6.below (Xu wr _ _) (Xu wr _ _).size)).mono (fun e w2 h =>⟨h.1,h.2 ▸ zl⟩))))
    first | refine wpQuiet_nil ?_ | skip
    rintro w' ⟨p,rfl⟩;have HBq:=kz (Xu wr p.d p.os);generalize Go.Sort.grow (redrawn wr p.d) p.os=w1 at *;have HX1:=kz ((oz HX).below (oz HBq));clear y0 y6 yz HC HX zz;go_wp2_with fail
    exact ⟨⟨k+1,by omega,by first | rfl | go_num,HO2,HX1⟩,by simp [intOf];omega⟩
  ·have k1:¬ (k:Int) < (T.fo.length:Int):=by omega
   have zz:=(oz HX).rx.tb.z4;have HE:=kz ((oz HO).ok (by omega) 5);clear HO HR;go_wp2_with fail
   exact oz HN (oz HE) _ _ (zq rfl) HX
noncomputable def uaDd:Code:=match Tryz.f65.body with
 | some (.seq _ (.seq _ (.seq _ (.seq _ (.seq c _))))) =>c
 | _ =>.skip
theorem zhd (T:TV) (hT:TabB T) (A:TbA) (W w:World)  (h:RxS W w T A) (U:Nat→Value) {Q:Exit→Act→World→Prop}
  (hN:zg 6 T.lk mp0 (Kc T)=(0,0,0)→∀ (a:Act) (wn:World),(∃ U',a=Yq W U')→Hz (RxT W w wn T A)→Q .normal a wn)
  (hR:∀ (y k:Int),zg 6 T.lk mp0 (Kc T)=(y,6,k)→y≠0→∀ (a:Act) (wn:World),a.tmps.getD 2 undef=.pointer (some ⟨W.heap.size+1,0,none⟩)→a.defers=[]→Hz (RxD W wn (y,6,k))→Q .ret a wn) :
  Code.wp Tryz.prog uaDd Q (Yq W U) w:=by
 have HN:=kz hN;have HR:=kz hR;have HX:=kz (RxT.refl h);have hln:=hT.n5;have HC:=kz (fun r b (hb:zi T.dr r=b) a c w (hv:RowC w w.heap.size a (zM T.dr)) =>by have:=XM T.dr hT.n6 a c r w hv;rwa [hb] at this);clear hN hR h
 delta uaDd Tryz.f65 Yq at *
 dsimp only;go_wp2_with fail
 go_loopw [6] (fun i wr => ∃ k:Nat,k≤T.lk.length∧i=.int .i64 k∧Hz (OkTo T.lk mp0 (Kc T) k)∧Hz (RxT W w wr T A)) (fun i _ =>T.lk.length - (intOf i).toNat)
 case atStart =>exact ⟨0,Zn _,rfl,kz (OkTo.zero _ _ _),HX⟩
 case round =>
  clear HX;obtain ⟨k,hk,rfl,HO,HX⟩:=hrel;by_cases hkn:k < T.lk.length
  ·obtain ⟨x,hx⟩:∃ x,T.lk[k]?=some x:=⟨_,qR hkn⟩;obtain ⟨g,o,ea,hg,c0,c1⟩:=za8 (oz HX).rx.tb.ti.r5 hx;have HK:=kz hx;have HG:=kz hg;have k1:(k:Int) < (T.lk.length:Int):=by omega
   have k2:=Zp k
   have zz:=(oz HX).rx.tb.z5;rw [ea] at zz;clear hg hx;cases h1:drB T x.1 with
   | true =>
    have hf:Kc T x=37:=by unfold Kc;rw [h1];rfl
    have HE:=kz ((oz HO).bad (oz HK) 6 (by rw [hf];decide));rw [hf] at HE;clear hf HO HK;have y0:=zP c0;have y6:=zP (oz HX).rx.tb.z6;have yz:=zP zz;have mh1:zi T.dr x.1=true:=h1;clear h1;go_wp2_with fail
    refine JG (by kernel_rfl) (by kernel_rfl) ?_;repeat (go_big_quiet_step (exact QH ((oz HC _ _ (by assumption) _ _ _ ((oz HX).rx.tb.ti.r6.below (Xu wr _ _) (Xu wr _ _).size)).mono (fun e w2 h =>⟨h.1,h.2 ▸ zl⟩))))
    first | refine wpQuiet_nil ?_ | skip
    rintro w' ⟨p,rfl⟩;have HBq:=kz (Xu wr p.d p.os);generalize Go.Sort.grow (redrawn wr p.d) p.os=w1 at *;have HX1:=kz ((oz HX).below (oz HBq));clear y0 y6 yz HC HX zz;have r0:=(oz HX1).rx.rs.cell 0;have f0:=(oz HX1).rx.rs.frozen 0;have r1:=(oz HX1).rx.rs.cell 1;have f1:=(oz HX1).rx.rs.frozen 1;have r2:=(oz HX1).rx.rs.cell 2;have f2:=(oz HX1).rx.rs.frozen 2;go_wp2_with fail
    exact oz HR _ _ (oz HE) (by decide) _ _ rfl rfl (kz ((oz HX1).put _ _ _))
   | false =>
    have hf:Kc T x=0:=by unfold Kc;rw [h1];rfl
    have HO2:=kz ((oz HO).next (oz HK) hf);clear hf HO HK;have y0:=zP c0;have y6:=zP (oz HX).rx.tb.z6;have yz:=zP zz;have mh1:zi T.dr x.1=false:=h1;clear h1;go_wp2_with fail
    refine JG (by kernel_rfl) (by kernel_rfl) ?_;repeat (go_big_quiet_step (exact QH ((oz HC _ _ (by assumption) _ _ _ ((oz HX).rx.tb.ti.r6.below (Xu wr _ _) (Xu wr _ _).size)).mono (fun e w2 h =>⟨h.1,h.2 ▸ zl⟩))))
    first | refine wpQuiet_nil ?_ | skip
    rintro w' ⟨p,rfl⟩;have HBq:=kz (Xu wr p.d p.os);generalize Go.Sort.grow (redrawn wr p.d) p.os=w1 at *;have HX1:=kz ((oz HX).below (oz HBq));clear y0 y6 yz HC HX zz;go_wp2_with fail
    exact ⟨⟨k+1,by omega,by first | rfl | go_num,HO2,HX1⟩,by simp [intOf];omega⟩
  ·have k1:¬ (k:Int) < (T.lk.length:Int):=by omega
   have zz:=(oz HX).rx.tb.z5;have HE:=kz ((oz HO).ok (by omega) 6);clear HO HR;go_wp2_with fail
   exact oz HN (oz HE) _ _ (zq rfl) HX
theorem zcq (T:TV) (hT:TabB T) (v:Value) (W:World) (hv:TbV W T v) :
  Calls Tryz.prog 65 #[v] W fun e w' =>e=.returned (wrV (qC T))∧Below W.heap.size W w':=by
 obtain ⟨A,rfl,hA⟩:=hv;have HX:=kz (RxS.start hA);have HT:=kz hT;have HV:∃ mb,Hz (orW [zg 3 T.ma ma0 (zfi T),zg 4 T.pr pr0 (zbq T),zg 5 T.fo mp0 (Kc T),zg 6 T.lk mp0 (Kc T)]=mb):=⟨_,kz rfl⟩;obtain ⟨mb,HV⟩:=HV;rw [show qC T=mb from oz HV];clear hA hT;go_enter Tryz.func65,Tryz.ntmps65;refine wp_seq_k (fun K0 hK0 =>?_);have HK0:=kz hK0;clear hK0;go_wp2_with fail
 refine oz HK0 _ _ ?_;clear HK0 K0;generalize (W.alloc _).alloc _=w0 at *;have hR:∀ (y l k:Int),mb=(y,l,k)→∀ (a:Act) (wn:World),a.tmps.getD 2 undef=.pointer (some ⟨W.heap.size+1,0,none⟩)→a.defers=[]→Hz (RxD W wn (y,l,k))→bodyPost Tryz.prog Tryz.f65 (fun e w' =>e=.returned (wrV mb)∧Below W.heap.size W w') .ret a wn:=fun y l k e a wn h1 h2 h3 =>by
  subst e;exact XS (v:=wrV (y,l,k)) (jA Tryz.results65 h1 (oz h3).rs rfl) h2 ⟨rfl,(oz h3).bl⟩
 refine wp_seq_k (fun K1 hK1 =>?_);refine zN (F:=Yq W) (zq rfl) (fun U =>?_);refine zhg T (oz HT) A W _ (oz HX) U ?_ ?_
 rotate_left
 ·intro y k e hy a wn h1 h2 h3;exact hR y _ k (by rw [← oz HV,zj (by rw [e];exact hy),e]) a wn h1 h2 h3
 intro E1 a w1 ⟨U1,hU⟩ hx;subst hU;have HX1:=kz (oz hx).rx;clear hx;refine hK1 _ _ ?_;clear hK1 K1;refine wp_seq_k (fun K2 hK2 =>?_);refine zN (F:=Yq W) ⟨U1,rfl⟩ (fun U =>?_);refine zhf T (oz HT) A W _ (oz HX1) U ?_ ?_
 rotate_left
 ·intro y k e hy a wn h1 h2 h3;exact hR y _ k (by rw [← oz HV,ze (by rw [E1]),zj (by rw [e];exact hy),e]) a wn h1 h2 h3
 intro E2 a w2 ⟨U2,hU⟩ hx;subst hU;have HX2:=kz (oz hx).rx;clear hx;refine hK2 _ _ ?_;clear hK2 K2;refine wp_seq_k (fun K3 hK3 =>?_);refine zN (F:=Yq W) ⟨U2,rfl⟩ (fun U =>?_);refine zhe T (oz HT) A W _ (oz HX2) U ?_ ?_
 rotate_left
 ·intro y k e hy a wn h1 h2 h3;exact hR y _ k (by rw [← oz HV,ze (by rw [E1]),ze (by rw [E2]),zj (by rw [e];exact hy),e]) a wn h1 h2 h3
 intro E3 a w3 ⟨U3,hU⟩ hx;subst hU;have HX3:=kz (oz hx).rx;clear hx;refine hK3 _ _ ?_;clear hK3 K3;refine wp_seq_k (fun K4 hK4 =>?_);refine zN (F:=Yq W) ⟨U3,rfl⟩ (fun U =>?_);refine zhd T (oz HT) A W _ (oz HX3) U ?_ ?_
 rotate_left
 ·intro y k e hy a wn h1 h2 h3;exact hR y _ k (by rw [← oz HV,ze (by rw [E1]),ze (by rw [E2]),ze (by rw [E3]),zj (by rw [e];exact hy),e]) a wn h1 h2 h3
 intro E4 a w4 ⟨U4,hU⟩ hx;subst hU;have HX4:=kz (oz hx).rx;clear hx;refine hK4 _ _ ?_;clear hK4 K4;have hm:mb=(0,0,0):=by
  rw [← oz HV,ze (by rw [E1]),ze (by rw [E2]),ze (by rw [E3]),ze (by rw [E4])];rfl
 subst hm;clear hR HV E1 E2 E3 E4;refine zN (F:=Yq W) ⟨U4,rfl⟩ (fun U =>?_);unfold Yq;have r0:=(oz HX4).rs.cell 0;have f0:=(oz HX4).rs.frozen 0;have r1:=(oz HX4).rs.cell 1;have f1:=(oz HX4).rs.frozen 1;have r2:=(oz HX4).rs.cell 2;have f2:=(oz HX4).rs.frozen 2;go_wp2_with fail
 exact XS (v:=wrV (0,0,0)) (jA Tryz.results65 rfl (jG (oz HX4).rs _ _ _) rfl) rfl ⟨rfl,((oz HX4).put (0,0,0)).bl⟩
def Qc (W:World) (U:Nat→Value):Act:={ tmps:=#[U 0,.pointer (some ⟨W.heap.size,0,none⟩),.pointer (some ⟨W.heap.size+1,0,none⟩),U 3,U 4,U 5,U 6,U 7,U 8,U 9,U 10,U 11,U 12,U 13,U 14,U 15,U 16,U 17,U 18,U 19,U 20,U 21,U 22,U 23,U 24,U 25,U 26,U 27,U 28,U 29,U 30,U 31,U 32,U 33,U 34,U 35,U 36,U 37,U 38,U 39,U 40,U 41,U 42,U 43,U 44,U 45,U 46,U 47,U 48,U 49,U 50,U 51,U 52,U 53,U 54,U 55,U 56,U 57,U 58,U 59,U 60,U 61,U 62],defers := [] }
noncomputable def uaPa:Code:=match Tryz.f64.body with
 | some (.seq _ (.seq c _)) =>c
 | _ =>.skip
theorem zg1 (T:TV) (hT:TabB T) (A:TbA) (W w:World)  (h:RxS W w T A) (U:Nat→Value) {Q:Exit→Act→World→Prop}
  (hN:zg 4 T.pr pr0 (prE T)=(0,0,0)→∀ (a:Act) (wn:World),(∃ U',a=Qc W U')→Hz (RxT W w wn T A)→Q .normal a wn)
  (hR:∀ (y k:Int),zg 4 T.pr pr0 (prE T)=(y,4,k)→y≠0→∀ (a:Act) (wn:World),a.tmps.getD 2 undef=.pointer (some ⟨W.heap.size+1,0,none⟩)→a.defers=[]→Hz (RxD W wn (y,4,k))→Q .ret a wn) :
  Code.wp Tryz.prog uaPa Q (Qc W U) w:=by
 have HN:=kz hN;have HR:=kz hR;have HX:=kz (RxT.refl h);have hln:=hT.n3;have HM:=kz (fun r b (hb:yJ T r=b) w (hv:TbV w T (.agg #[.slice A.a0 T.sc.length A.c0,.slice A.a1 T.co.length A.c1,.slice A.a2 T.ma.length A.c2,.slice A.a3 T.pr.length A.c3,.slice A.a4 T.fo.length A.c4,.slice A.a5 T.lk.length A.c5,.slice A.a6 T.dr.length A.c6,.slice A.a7 T.al.length A.c7])) =>by have:=ZG T hT.n2 _ r w hv;rwa [hb] at this);clear hN hR h
 delta uaPa Tryz.f64 Qc at *
 dsimp only;go_wp2_with fail
 go_loopw [3] (fun i wr => ∃ k:Nat,k≤T.pr.length∧i=.int .i64 k∧Hz (OkTo T.pr pr0 (prE T) k)∧Hz (RxT W w wr T A)) (fun i _ =>T.pr.length - (intOf i).toNat)
 case atStart =>exact ⟨0,Zn _,rfl,kz (OkTo.zero _ _ _),HX⟩
 case round =>
  clear HX;obtain ⟨k,hk,rfl,HO,HX⟩:=hrel;by_cases hkn:k < T.pr.length
  ·obtain ⟨x,hx⟩:∃ x,T.pr[k]?=some x:=⟨_,qR hkn⟩;obtain ⟨g,o,ea,hg,c0,c1,c2⟩:=zdV (oz HX).rx.tb.ti.r3 hx;have HK:=kz hx;have HG:=kz hg;have k1:(k:Int) < (T.pr.length:Int):=by omega
   have k2:=Zp k
   have zz:=(oz HX).rx.tb.z3;rw [ea] at zz;clear hg hx;cases h1:yJ T x.1 with
   | true =>
    have hf:prE T x=32:=by unfold prE;rw [h1];rfl
    have HE:=kz ((oz HO).bad (oz HK) 4 (by rw [hf];decide));rw [hf] at HE;clear hf HO HK;have y0:=zP (oz HX).rx.tb.z0;have y1:=zP (oz HX).rx.tb.z1;have y2:=zP (oz HX).rx.tb.z2;have y4:=zP (oz HX).rx.tb.z4;have y5:=zP (oz HX).rx.tb.z5;have y6:=zP (oz HX).rx.tb.z6;have y7:=zP (oz HX).rx.tb.z7;have yz:=zP zz;have x0:=zP c0;have x1:=zP c1;have x2:=zP c2;have HM2:=kz (fun r b hb w' (hw:Below wr.heap.size wr w') =>oz HM r b hb w' ((oz HX).rx.tb.tv.below hw));rw [ea] at HM2;have mh1:yJ T x.1=true:=h1;clear ea h1;go_wp2_with fail
    refine JG (by kernel_rfl) (by kernel_rfl) ?_;repeat (go_big_quiet_step (exact QH (oz HM2 _ _ (by assumption) _ (Xu wr _ _))))
    first | refine wpQuiet_nil ?_ | skip
    rintro w' ⟨p,rfl⟩;have HBq:=kz (Xu wr p.d p.os);generalize Go.Sort.grow (redrawn wr p.d) p.os=w1 at *;have HX1:=kz ((oz HX).below (oz HBq));clear y0 y1 y2 y4 y5 y6 y7 yz x0 x1 x2 HM HM2 HX zz;have r0:=(oz HX1).rx.rs.cell 0;have f0:=(oz HX1).rx.rs.frozen 0;have r1:=(oz HX1).rx.rs.cell 1;have f1:=(oz HX1).rx.rs.frozen 1;have r2:=(oz HX1).rx.rs.cell 2;have f2:=(oz HX1).rx.rs.frozen 2;go_wp2_with fail
    exact oz HR _ _ (oz HE) (by decide) _ _ rfl rfl (kz ((oz HX1).put _ _ _))
   | false =>
    cases h2:yJ T x.2.1 with
    | true =>
     have hf:prE T x=32:=by unfold prE;rw [h1,h2];rfl
     have HE:=kz ((oz HO).bad (oz HK) 4 (by rw [hf];decide));rw [hf] at HE;clear hf HO HK;have y0:=zP (oz HX).rx.tb.z0;have y1:=zP (oz HX).rx.tb.z1;have y2:=zP (oz HX).rx.tb.z2;have y4:=zP (oz HX).rx.tb.z4;have y5:=zP (oz HX).rx.tb.z5;have y6:=zP (oz HX).rx.tb.z6;have y7:=zP (oz HX).rx.tb.z7;have yz:=zP zz;have x0:=zP c0;have x1:=zP c1;have x2:=zP c2;have HM2:=kz (fun r b hb w' (hw:Below wr.heap.size wr w') =>oz HM r b hb w' ((oz HX).rx.tb.tv.below hw));rw [ea] at HM2;have mh1:yJ T x.1=false:=h1;have mh2:yJ T x.2.1=true:=h2;clear ea h1 h2;go_wp2_with fail
     refine JG (by kernel_rfl) (by kernel_rfl) ?_;repeat (go_big_quiet_step (exact QH (oz HM2 _ _ (by assumption) _ (Xu wr _ _))))
     first | refine wpQuiet_nil ?_ | skip
     rintro w' ⟨p,rfl⟩;have HBq:=kz (Xu wr p.d p.os);generalize Go.Sort.grow (redrawn wr p.d) p.os=w1 at *;have HX1:=kz ((oz HX).below (oz HBq));clear y0 y1 y2 y4 y5 y6 y7 yz x0 x1 x2 HM HM2 HX zz;have r0:=(oz HX1).rx.rs.cell 0;have f0:=(oz HX1).rx.rs.frozen 0;have r1:=(oz HX1).rx.rs.cell 1;have f1:=(oz HX1).rx.rs.frozen 1;have r2:=(oz HX1).rx.rs.cell 2;have f2:=(oz HX1).rx.rs.frozen 2;go_wp2_with fail
     exact oz HR _ _ (oz HE) (by decide) _ _ rfl rfl (kz ((oz HX1).put _ _ _))
    | false =>
     cases h3:yJ T x.2.2 with
     | false =>
      have hf:prE T x=32:=by unfold prE;rw [h1,h2,h3];rfl
      have HE:=kz ((oz HO).bad (oz HK) 4 (by rw [hf];decide));rw [hf] at HE;clear hf HO HK;have y0:=zP (oz HX).rx.tb.z0;have y1:=zP (oz HX).rx.tb.z1;have y2:=zP (oz HX).rx.tb.z2;have y4:=zP (oz HX).rx.tb.z4;have y5:=zP (oz HX).rx.tb.z5;have y6:=zP (oz HX).rx.tb.z6;have y7:=zP (oz HX).rx.tb.z7;have yz:=zP zz;have x0:=zP c0;have x1:=zP c1;have x2:=zP c2;have HM2:=kz (fun r b hb w' (hw:Below wr.heap.size wr w') =>oz HM r b hb w' ((oz HX).rx.tb.tv.below hw));rw [ea] at HM2;have mh1:yJ T x.1=false:=h1;have mh2:yJ T x.2.1=false:=h2;have mh3:yJ T x.2.2=false:=h3;clear ea h1 h2 h3;go_wp2_with fail
      refine JG (by kernel_rfl) (by kernel_rfl) ?_;repeat (go_big_quiet_step (exact QH (oz HM2 _ _ (by assumption) _ (Xu wr _ _))))
      first | refine wpQuiet_nil ?_ | skip
      rintro w' ⟨p,rfl⟩;have HBq:=kz (Xu wr p.d p.os);generalize Go.Sort.grow (redrawn wr p.d) p.os=w1 at *;have HX1:=kz ((oz HX).below (oz HBq));clear y0 y1 y2 y4 y5 y6 y7 yz x0 x1 x2 HM HM2 HX zz;have r0:=(oz HX1).rx.rs.cell 0;have f0:=(oz HX1).rx.rs.frozen 0;have r1:=(oz HX1).rx.rs.cell 1;have f1:=(oz HX1).rx.rs.frozen 1;have r2:=(oz HX1).rx.rs.cell 2;have f2:=(oz HX1).rx.rs.frozen 2;go_wp2_with fail
      exact oz HR _ _ (oz HE) (by decide) _ _ rfl rfl (kz ((oz HX1).put _ _ _))
     | true =>
      have hf:prE T x=0:=by unfold prE;rw [h1,h2,h3];rfl
      have HO2:=kz ((oz HO).next (oz HK) hf);clear hf HO HK;have y0:=zP (oz HX).rx.tb.z0;have y1:=zP (oz HX).rx.tb.z1;have y2:=zP (oz HX).rx.tb.z2;have y4:=zP (oz HX).rx.tb.z4;have y5:=zP (oz HX).rx.tb.z5;have y6:=zP (oz HX).rx.tb.z6;have y7:=zP (oz HX).rx.tb.z7;have yz:=zP zz;have x0:=zP c0;have x1:=zP c1;have x2:=zP c2;have HM2:=kz (fun r b hb w' (hw:Below wr.heap.size wr w') =>oz HM r b hb w' ((oz HX).rx.tb.tv.below hw));rw [ea] at HM2;have mh1:yJ T x.1=false:=h1;have mh2:yJ T x.2.1=false:=h2;have mh3:yJ T x.2.2=true:=h3;clear ea h1 h2 h3;go_wp2_with fail
      refine JG (by kernel_rfl) (by kernel_rfl) ?_;repeat (go_big_quiet_step (exact QH (oz HM2 _ _ (by assumption) _ (Xu wr _ _))))
      first | refine wpQuiet_nil ?_ | skip
      rintro w' ⟨p,rfl⟩;have HBq:=kz (Xu wr p.d p.os);generalize Go.Sort.grow (redrawn wr p.d) p.os=w1 at *;have HX1:=kz ((oz HX).below (oz HBq));clear y0 y1 y2 y4 y5 y6 y7 yz x0 x1 x2 HM HM2 HX zz;go_wp2_with fail
      exact ⟨⟨k+1,by omega,by first | rfl | go_num,HO2,HX1⟩,by simp [intOf];omega⟩
  ·have k1:¬ (k:Int) < (T.pr.length:Int):=by omega
   have zz:=(oz HX).rx.tb.z3;have HE:=kz ((oz HO).ok (by omega) 4);clear HO HR;go_wp2_with fail
   exact oz HN (oz HE) _ _ (zq rfl) HX
noncomputable def uaPb:Code:=match Tryz.f64.body with
 | some (.seq _ (.seq _ (.seq c _))) =>c
 | _ =>.skip
theorem zg0 (T:TV) (hT:TabB T) (A:TbA) (W w:World)  (h:RxS W w T A) (U:Nat→Value) {Q:Exit→Act→World→Prop}
  (hN:zg 4 T.pr pr0 (prR T)=(0,0,0)→∀ (a:Act) (wn:World),(∃ U',a=Qc W U')→Hz (RxT W w wn T A)→Q .normal a wn)
  (hR:∀ (y k:Int),zg 4 T.pr pr0 (prR T)=(y,4,k)→y≠0→∀ (a:Act) (wn:World),a.tmps.getD 2 undef=.pointer (some ⟨W.heap.size+1,0,none⟩)→a.defers=[]→Hz (RxD W wn (y,4,k))→Q .ret a wn) :
  Code.wp Tryz.prog uaPb Q (Qc W U) w:=by
 have HN:=kz hN;have HR:=kz hR;have HX:=kz (RxT.refl h);have hln:=hT.n3;have HM:=kz (fun k x (hx:T.pr[k]?=some x) w (hv:TbV w T (.agg #[.slice A.a0 T.sc.length A.c0,.slice A.a1 T.co.length A.c1,.slice A.a2 T.ma.length A.c2,.slice A.a3 T.pr.length A.c3,.slice A.a4 T.fo.length A.c4,.slice A.a5 T.lk.length A.c5,.slice A.a6 T.dr.length A.c6,.slice A.a7 T.al.length A.c7])) =>zct T hT.n3 _ k x hx w hv);clear hN hR h
 delta uaPb Tryz.f64 Qc at *
 dsimp only;go_wp2_with fail
 go_loopw [4] (fun i wr => ∃ k:Nat,k≤T.pr.length∧i=.int .i64 k∧Hz (OkTo T.pr pr0 (prR T) k)∧Hz (RxT W w wr T A)) (fun i _ =>T.pr.length - (intOf i).toNat)
 case atStart =>exact ⟨0,Zn _,rfl,kz (OkTo.zero _ _ _),HX⟩
 case round =>
  clear HX;obtain ⟨k,hk,rfl,HO,HX⟩:=hrel;by_cases hkn:k < T.pr.length
  ·obtain ⟨x,hx⟩:∃ x,T.pr[k]?=some x:=⟨_,qR hkn⟩;obtain ⟨g,o,ea,hg,c0,c1,c2⟩:=zdV (oz HX).rx.tb.ti.r3 hx;have HK:=kz hx;have HG:=kz hg;have k1:(k:Int) < (T.pr.length:Int):=by omega
   have k2:=Zp k
   have zz:=(oz HX).rx.tb.z3;rw [ea] at zz;clear hg hx;cases hq:Xf T T.pr.length x.2.1 1 with
   | none =>
    have HC2:=kz (fun w' (hw:Below wr.heap.size wr w') =>oz HM k x (oz HK) w' ((oz HX).rx.tb.tv.below hw));rw [ea,hq] at HC2;clear ea c0 c1 c2;have hf:prR T x=33:=by unfold prR;rw [hq]
    have HE:=kz ((oz HO).bad (oz HK) 4 (by rw [hf];decide));rw [hf] at HE;clear hf HO HK;rw [show chI none = -1 from rfl] at HC2;have z0:=(oz HX).rx.tb.z0;have z1:=(oz HX).rx.tb.z1;have z2:=(oz HX).rx.tb.z2;have z4:=(oz HX).rx.tb.z4;have z5:=(oz HX).rx.tb.z5;have z6:=(oz HX).rx.tb.z6;have z7:=(oz HX).rx.tb.z7;clear hq;go_wp2_with fail
    refine (oz HC2 wr zl).mono ?_;rintro e w1 ⟨rfl,hbx⟩;have HX1:=kz ((oz HX).below hbx);clear z0 z1 z2 z4 z5 z6 z7 HM HC2 HX zz hbx;have r0:=(oz HX1).rx.rs.cell 0;have f0:=(oz HX1).rx.rs.frozen 0;have r1:=(oz HX1).rx.rs.cell 1;have f1:=(oz HX1).rx.rs.frozen 1;have r2:=(oz HX1).rx.rs.cell 2;have f2:=(oz HX1).rx.rs.frozen 2;go_wp2_with fail
    exact oz HR _ _ (oz HE) (by decide) _ _ rfl rfl (kz ((oz HX1).put _ _ _))
   | some n =>
    have hc:chI (some n)=(n:Int):=rfl;by_cases h4:4 < n
    ·have HC2:=kz (fun w' (hw:Below wr.heap.size wr w') =>oz HM k x (oz HK) w' ((oz HX).rx.tb.tv.below hw));rw [ea,hq] at HC2;clear ea c0 c1 c2;have hf:prR T x=34:=by unfold prR;rw [hq];exact if_pos h4
     have HE:=kz ((oz HO).bad (oz HK) 4 (by rw [hf];decide));rw [hf] at HE;clear hf HO HK;rw [hc] at HC2;have n1:¬ (n:Int) < 0:=by omega
     have n2:(4:Int) < (n:Int):=by omega
     clear hc h4;have z0:=(oz HX).rx.tb.z0;have z1:=(oz HX).rx.tb.z1;have z2:=(oz HX).rx.tb.z2;have z4:=(oz HX).rx.tb.z4;have z5:=(oz HX).rx.tb.z5;have z6:=(oz HX).rx.tb.z6;have z7:=(oz HX).rx.tb.z7;clear hq;go_wp2_with fail
     refine (oz HC2 wr zl).mono ?_;rintro e w1 ⟨rfl,hbx⟩;have HX1:=kz ((oz HX).below hbx);clear z0 z1 z2 z4 z5 z6 z7 HM HC2 HX zz hbx;have r0:=(oz HX1).rx.rs.cell 0;have f0:=(oz HX1).rx.rs.frozen 0;have r1:=(oz HX1).rx.rs.cell 1;have f1:=(oz HX1).rx.rs.frozen 1;have r2:=(oz HX1).rx.rs.cell 2;have f2:=(oz HX1).rx.rs.frozen 2;go_wp2_with fail
     exact oz HR _ _ (oz HE) (by decide) _ _ rfl rfl (kz ((oz HX1).put _ _ _))
    ·have HC2:=kz (fun w' (hw:Below wr.heap.size wr w') =>oz HM k x (oz HK) w' ((oz HX).rx.tb.tv.below hw));rw [ea,hq] at HC2;clear ea c0 c1 c2;have hf:prR T x=0:=by unfold prR;rw [hq];exact if_neg h4
     have HO2:=kz ((oz HO).next (oz HK) hf);clear hf HO HK;rw [hc] at HC2;have n1:¬ (n:Int) < 0:=by omega
     have n2:¬ (4:Int) < (n:Int):=by omega
     clear hc h4;have z0:=(oz HX).rx.tb.z0;have z1:=(oz HX).rx.tb.z1;have z2:=(oz HX).rx.tb.z2;have z4:=(oz HX).rx.tb.z4;have z5:=(oz HX).rx.tb.z5;have z6:=(oz HX).rx.tb.z6;have z7:=(oz HX).rx.tb.z7;clear hq;go_wp2_with fail
     refine (oz HC2 wr zl).mono ?_;rintro e w1 ⟨rfl,hbx⟩;have HX1:=kz ((oz HX).below hbx);clear z0 z1 z2 z4 z5 z6 z7 HM HC2 HX zz hbx;go_wp2_with fail
     exact ⟨⟨k+1,by omega,by first | rfl | go_num,HO2,HX1⟩,by simp [intOf];omega⟩
  ·have k1:¬ (k:Int) < (T.pr.length:Int):=by omega
   have zz:=(oz HX).rx.tb.z3;have HE:=kz ((oz HO).ok (by omega) 4);clear HO HR;go_wp2_with fail
   exact oz HN (oz HE) _ _ (zq rfl) HX
theorem zcn (T:TV) (hT:TabB T) (v:Value) (W:World) (hv:TbV W T v) :
  Calls Tryz.prog 64 #[v] W fun e w' =>e=.returned (wrV (orW [jQ T,XH T]))∧Below W.heap.size W w':=by
 obtain ⟨A,rfl,hA⟩:=hv;have HX:=kz (RxS.start hA);have HT:=kz hT;have HV:∃ mb,Hz (orW [zg 4 T.pr pr0 (prE T),zg 4 T.pr pr0 (prR T)]=mb):=⟨_,kz rfl⟩;obtain ⟨mb,HV⟩:=HV;rw [show orW [jQ T,XH T]=mb from oz HV];clear hA hT;go_enter Tryz.func64,Tryz.ntmps64;refine wp_seq_k (fun K0 hK0 =>?_);have HK0:=kz hK0;clear hK0;go_wp2_with fail
 refine oz HK0 _ _ ?_;clear HK0 K0;generalize (W.alloc _).alloc _=w0 at *;have hR:∀ (y l k:Int),mb=(y,l,k)→∀ (a:Act) (wn:World),a.tmps.getD 2 undef=.pointer (some ⟨W.heap.size+1,0,none⟩)→a.defers=[]→Hz (RxD W wn (y,l,k))→bodyPost Tryz.prog Tryz.f64 (fun e w' =>e=.returned (wrV mb)∧Below W.heap.size W w') .ret a wn:=fun y l k e a wn h1 h2 h3 =>by
  subst e;exact XS (v:=wrV (y,l,k)) (jA Tryz.results64 h1 (oz h3).rs rfl) h2 ⟨rfl,(oz h3).bl⟩
 refine wp_seq_k (fun K1 hK1 =>?_);refine zN (F:=Qc W) (zq rfl) (fun U =>?_);refine zg1 T (oz HT) A W _ (oz HX) U ?_ ?_
 rotate_left
 ·intro y k e hy a wn h1 h2 h3;exact hR y _ k (by rw [← oz HV,zj (by rw [e];exact hy),e]) a wn h1 h2 h3
 intro E1 a w1 ⟨U1,hU⟩ hx;subst hU;have HX1:=kz (oz hx).rx;clear hx;refine hK1 _ _ ?_;clear hK1 K1;refine wp_seq_k (fun K2 hK2 =>?_);refine zN (F:=Qc W) ⟨U1,rfl⟩ (fun U =>?_);refine zg0 T (oz HT) A W _ (oz HX1) U ?_ ?_
 rotate_left
 ·intro y k e hy a wn h1 h2 h3;exact hR y _ k (by rw [← oz HV,ze (by rw [E1]),zj (by rw [e];exact hy),e]) a wn h1 h2 h3
 intro E2 a w2 ⟨U2,hU⟩ hx;subst hU;have HX2:=kz (oz hx).rx;clear hx;refine hK2 _ _ ?_;clear hK2 K2;have hm:mb=(0,0,0):=by
  rw [← oz HV,ze (by rw [E1]),ze (by rw [E2])];rfl
 subst hm;clear hR HV E1 E2;refine zN (F:=Qc W) ⟨U2,rfl⟩ (fun U =>?_);unfold Qc;have r0:=(oz HX2).rs.cell 0;have f0:=(oz HX2).rs.frozen 0;have r1:=(oz HX2).rs.cell 1;have f1:=(oz HX2).rs.frozen 1;have r2:=(oz HX2).rs.cell 2;have f2:=(oz HX2).rs.frozen 2;go_wp2_with fail
 exact XS (v:=wrV (0,0,0)) (jA Tryz.results64 rfl (jG (oz HX2).rs _ _ _) rfl) rfl ⟨rfl,((oz HX2).put (0,0,0)).bl⟩
end Go.Proofs.YthchopdfmchpkaaGreat
