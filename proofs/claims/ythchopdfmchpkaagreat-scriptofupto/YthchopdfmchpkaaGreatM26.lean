/- Texts of this claim, one behind the other. -/
import Derived.Test.YthchopdfmchpkaaGreatM25
import Derived.Laws.CopyOwn
namespace Go.Proofs.YthchopdfmchpkaaGreat
set_option linter.unusedVariables false
section
open Go.RowKit Go.Shelf Go.Maps
set_option maxRecDepth 100000
set_option maxHeartbeats 8000000
def Q2 (T:TV) (s:ByteArray) (zs:List Nat):Bool:=YM (jU T (zs.map (spX s)))
theorem zjf (T:TV) (s:ByteArray) (zs:List Nat):Q2 T s zs=(zs.any (fun x => !yP T (spX s x)) && (ofS T s zs).isEmpty):=by
 unfold Q2 YM;rw [ze8,ZM];simp [List.any_map,Function.comp_def]
theorem JZ (T:TV) (hT:TabB T) (hs:T.sc.length≤300000) (A:TbA) (s:ByteArray) (zs:List Nat) (hz:zs.length≤1000000) (a:Option Addr) (c:Nat) (W:World) (hA:Yb W T A) (hr:RowC W W.heap.size a (zs.flatMap (yG s))) :
  Calls Tryz.prog 52 #[.agg #[.slice A.a0 T.sc.length A.c0,.slice A.a1 T.co.length A.c1,.slice A.a2 T.ma.length A.c2,.slice A.a3 T.pr.length A.c3,.slice A.a4 T.fo.length A.c4,.slice A.a5 T.lk.length A.c5,.slice A.a6 T.dr.length A.c6,.slice A.a7 T.al.length A.c7],.slice a zs.length c] W fun e w' =>e=.returned (.bool (Q2 T s zs))∧Below W.heap.size W w':=by
 have hmx:=zdA
 have HX:=kz (TbX.start hA);have HL:=kz (hr.below (TbX.start hA).bl (TbX.start hA).bl.size);have HT:=kz hT;have HM:=kz (zjf T s zs);obtain ⟨mm,hmm⟩:∃ mm,Q2 T s zs=mm:=⟨_,rfl⟩;rw [hmm] at HM;rw [hmm];clear hA hr hT hmm;go_enter Tryz.func52,Tryz.ntmps52;go_wp2_with fail
 generalize W.alloc _=w0 at *;go_loopw [5] (fun i wr => ∃ k:Nat,k≤zs.length∧i=.int .i64 k∧Hz (NoneB zs (fun x => !yP T (spX s x)) k)∧Hz (Below w0.heap.size w0 wr)) (fun i _ =>zs.length - (intOf i).toNat)
 case atStart =>exact ⟨0,Zn _,rfl,kz (NoneB.zero _ _),kz zl⟩
 case round =>
  obtain ⟨k,hk,rfl,HN,HB⟩:=hrel;have HX2:=kz ((oz HX).below (oz HB));have HL2:=kz ((oz HL).below (oz HB) (oz HB).size);by_cases hkn:k < zs.length
  ·obtain ⟨x,hx⟩:∃ x,zs[k]?=some x:=⟨_,qR hkn⟩;obtain ⟨g,o,ea,hg,s0,s1,s2,s3⟩:=Jt (oz HL2) hx;have k1:(k:Int) < (zs.length:Int):=by omega
   have k2:=Zp k
   have HK:=kz hx;obtain ⟨fb,hfb⟩:∃ fb,yP T (spX s x)=fb:=⟨_,rfl⟩;have HF:Hz (∀ w,Yb w T A→Calls Tryz.prog 54 #[.agg #[.slice A.a0 T.sc.length A.c0,.slice A.a1 T.co.length A.c1,.slice A.a2 T.ma.length A.c2,.slice A.a3 T.pr.length A.c3,.slice A.a4 T.fo.length A.c4,.slice A.a5 T.lk.length A.c5,.slice A.a6 T.dr.length A.c6,.slice A.a7 T.al.length A.c7],.agg #[.int .i32 (rn s x),.int .i64 x,.int .i64 (wd s x),.bool (j6 s x)]] w fun e w' =>e=.returned (.bool fb)∧Below w.heap.size w w'):=kz (fun w h =>by
    have q:=ZV T (oz HT) A (rn s x) x (wd s x) (j6 s x) w h
    rwa [show yP T (((rn s x:Nat):Int),j6 s x)=fb from hfb] at q)
   have HXr:=kz (fun d os =>((oz HX2).below (Xu wr d os)).ti);have s0:=zP s0;have s1:=zP s1;have s2:=zP s2;have s3:=zP s3;have HFB:=kz hfb;have HO:=kz (fun w h hr =>QY T (oz HT) hs A s zs hz a c w h hr);subst ea;clear hg hx hfb;have z0:=zP (oz HX2).z0;have z1:=zP (oz HX2).z1;have z2:=zP (oz HX2).z2;have z3:=zP (oz HX2).z3;have z4:=zP (oz HX2).z4;have z5:=zP (oz HX2).z5;have z6:=zP (oz HX2).z6;have z7:=zP (oz HX2).z7;go_wp2_with fail
   refine JG (by kernel_rfl) (by kernel_rfl) ?_;repeat (go_big_quiet_step (exact QH (oz HF _ (oz HXr _ _))))
   first | refine wpQuiet_nil ?_ | skip
   rintro w' ⟨dq,rfl⟩;have hb:=Xu wr dq.d dq.os;generalize Go.Sort.grow (redrawn wr dq.d) dq.os=w2 at *;have HB3:=kz ((oz HB).trans (hb.mono (oz HB).size));have HX3:=kz ((oz HX2).below hb);have HL3:=kz ((oz HL2).below hb hb.size);clear hb HF HXr HX2 HL2 HB s0 s1 s2 s3;clear z0 z1 z2 z3 z4 z5 z6 z7;cases fb with
   | true =>
    have HN2:=kz ((oz HN).next (oz HK) (by show (!yP T (spX s x))=false;rw [oz HFB];rfl));clear HN HK HFB HO HX3 HL3;go_wp2_with fail
    exact ⟨⟨k+1,by omega,by first | rfl | go_num,HN2,HB3⟩,by simp [intOf];omega⟩
   | false =>
    have HV:Hz (mm=(ofS T s zs).isEmpty):=kz (by
     rw [oz HM,Yl (oz HK) (by show (!yP T (spX s x))=true;rw [oz HFB];rfl)];rfl)
    clear HN HK HFB;have z0:=(oz HX3).z0;have z1:=(oz HX3).z1;have z2:=(oz HX3).z2;have z3:=(oz HX3).z3;have z4:=(oz HX3).z4;have z5:=(oz HX3).z5;have z6:=(oz HX3).z6;have z7:=(oz HX3).z7;go_wp2_with fail
    refine (oz HO w2 (oz HX3).ti (oz HL3)).mono ?_;rintro e w3 ⟨v,rfl,ho,hb⟩;obtain ⟨a3,c3,rfl⟩:=zL ho;have HB4:=kz ((oz HX3).bl.trans (hb.mono (oz HX3).bl.size));have HE:Hz ((ofS T s zs).isEmpty=decide ((ofS T s zs).length=0)):=kz (by cases ofS T s zs <;> simp);generalize (ofS T s zs).length=ln at *;clear ho hb HO HX3 HL3 HB3;clear z0 z1 z2 z3 z4 z5 z6 z7;by_cases h0:ln=0
    ·subst h0;have HV2:Hz (mm=true):=kz (by rw [oz HV,oz HE];rfl);clear HV HE;go_wp2_with fail
     go_ret;exact ⟨by rw [oz HV2];rfl,oz HB4⟩
    ·have HV2:Hz (mm=false):=kz (by rw [oz HV,oz HE,Zq h0]);have e1:((ln:Int) == 0)=false:=by rw [beq_eq_false_iff_ne];omega
     have e2:(ln == 0)=false:=by rw [beq_eq_false_iff_ne];exact h0
     clear HV HE;go_wp2_with fail
     go_ret;exact ⟨by rw [oz HV2];rfl,oz HB4⟩
  ·have k1:¬ (k:Int) < (zs.length:Int):=by omega
   have HV:Hz (mm=false):=kz (by rw [oz HM,(oz HN).any (by omega)];rfl);clear HN;go_wp2_with fail
   go_ret;exact ⟨by rw [oz HV];rfl,(oz HX2).bl⟩
set_option maxRecDepth 100000
set_option maxHeartbeats 8000000
theorem zhE {W:World} {lo E sz n c:Nat} {a:Option Addr} {xs:List Value} (h:W.ownsRow lo E sz (.slice a n c) n xs):n≤c:=by
 rcases h.2 with ⟨e,h0⟩ | ⟨g,cap,cur,e,_,_,h1,h2,h3,_⟩
 ·omega
 ·cases e
  omega
theorem RowC.pre {W:World} {hi:Nat} {a:Option Addr} {xs ys:List Value} (h:RowC W hi a (xs++ys)):RowC W hi a xs:=by
 intro h0;obtain ⟨g,o,e,hg,hc⟩:=h (by rw [List.length_append];omega);exact ⟨g,o,e,hg,fun j u hj =>hc j u (by rw [List.getElem?_append_left (Ze.1 hj).1];exact hj)⟩
theorem zfK {W:World} {hi:Nat} {a:Option Addr} {s:ByteArray} {zs:List Nat} (k:Nat) (h:RowC W hi a (zs.flatMap (yG s))):RowC W hi a ((zs.take k).flatMap (yG s)):=by
 refine RowC.pre (ys:=(zs.drop k).flatMap (yG s)) ?_;rw [← List.flatMap_append,List.take_append_drop];exact h
theorem QN (T:TV) (s:ByteArray) (k:Nat):Q2 T s ((zh s).take k)=YM (jU T ((spL s).take k)):=by
 unfold Q2 spL;rw [List.map_take]
theorem zfx {T:TV} {s:ByteArray} {k:Nat} (h:∀ j,j < k→Q2 T s ((zh s).take (j+1))=false) (hk:(zh s).length≤k):Yx T s=none:=by
 unfold Yx;rw [List.find?_eq_none];intro x hx;unfold spN at hx;obtain ⟨i,hi⟩:=List.mem_iff_getElem?.1 hx;rw [List.getElem?_zipIdx] at hi;cases hs:(zh s)[i]? with
 | none =>rw [hs] at hi;cases hi
 | some y =>
  rw [hs] at hi;simp at hi;subst hi;have hl:=(Ze.1 hs).1;have:=h i (by omega);rw [QN] at this;simp [this]
theorem zcu (T:TV) (hT:TabB T) (hs:T.sc.length≤300000) (A:TbA) (s:ByteArray) (hz:s.size≤1000000) (W:World) (hA:Yb W T A) :
  Calls Tryz.prog 23 #[.agg #[.slice A.a0 T.sc.length A.c0,.slice A.a1 T.co.length A.c1,.slice A.a2 T.ma.length A.c2,.slice A.a3 T.pr.length A.c3,.slice A.a4 T.fo.length A.c4,.slice A.a5 T.lk.length A.c5,.slice A.a6 T.dr.length A.c6,.slice A.a7 T.al.length A.c7],.string s] W fun e w' =>e=.returned (JC (Yx T s))∧Below W.heap.size W w':=by
 have hmx:=zdA
 have HX:=kz ((TbX.start hA).below (zl.alloc zD (.cells #[.int .i64 0,.int .i64 0] 47)));have HP:=kz (Blk.new (W.alloc (.cells #[.slice A.a0 T.sc.length A.c0,.slice A.a1 T.co.length A.c1,.slice A.a2 T.ma.length A.c2,.slice A.a3 T.pr.length A.c3,.slice A.a4 T.fo.length A.c4,.slice A.a5 T.lk.length A.c5,.slice A.a6 T.dr.length A.c6,.slice A.a7 T.al.length A.c7] 31)) #[.int .i64 0,.int .i64 0] 47);have hzz:(W.alloc (.cells #[.slice A.a0 T.sc.length A.c0,.slice A.a1 T.co.length A.c1,.slice A.a2 T.ma.length A.c2,.slice A.a3 T.pr.length A.c3,.slice A.a4 T.fo.length A.c4,.slice A.a5 T.lk.length A.c5,.slice A.a6 T.dr.length A.c6,.slice A.a7 T.al.length A.c7] 31)).heap.size=W.heap.size+1:=by simp
 rw [hzz] at HP;have hst:=zX s;have HT:=kz hT;clear hA hT hzz;go_enter Tryz.func23,Tryz.ntmps23;go_wp2_with fail
 generalize (W.alloc _).alloc _=w0 at *;refine (Zr s (by omega) w0).mono ?_;rintro e w1 ⟨v0,rfl,hown,hb⟩;obtain ⟨a,c,rfl⟩:=zL hown;have hcap:=zhE hown;have HL:=kz (yY hown);have HX1:=kz ((oz HX).below hb);have HP1:=kz ((oz HP).below hb (oz HP).lt);clear hown hb HX HP;go_wp2_with fail
 go_loopw [7] (fun i wr => ∃ k:Nat,k≤(zh s).length∧i=.int .i64 k∧Hz (∀ j,j < k→Q2 T s ((zh s).take (j+1))=false)∧Hz (Below w1.heap.size w1 wr)) (fun i _ =>(zh s).length - (intOf i).toNat)
 case atStart =>exact ⟨0,Zn _,rfl,kz (fun j hj =>by omega),kz zl⟩
 case round =>
  obtain ⟨k,hk,rfl,HN,HB⟩:=hrel;have HX2:=kz ((oz HX1).below (oz HB));have HL2:=kz ((oz HL).below (oz HB) (oz HB).size);have HP2:=kz ((oz HP1).below (oz HB) (oz HP1).lt);by_cases hkn:k < (zh s).length
  ·obtain ⟨x,hx⟩:∃ x,(zh s)[k]?=some x:=⟨_,qR hkn⟩;have k1:(k:Int) < ((zh s).length:Int):=by omega
   have k2:=Zp k
   have k3:((k:Int)+1).toNat=k+1:=by omega
   have k4:(k:Int)+1≤(c:Int):=by omega
   have k5:(0:Int)≤(k:Int)+1:=by omega
   have k6:k+1≤c:=by omega
   have hl:((zh s).take (k+1)).length=k+1:=by rw [List.length_take];omega
   obtain ⟨mm,hmm⟩:∃ mm,Q2 T s ((zh s).take (k+1))=mm:=⟨_,rfl⟩;have HM:Hz (∀ d os,Calls Tryz.prog 52 #[.agg #[.slice A.a0 T.sc.length A.c0,.slice A.a1 T.co.length A.c1,.slice A.a2 T.ma.length A.c2,.slice A.a3 T.pr.length A.c3,.slice A.a4 T.fo.length A.c4,.slice A.a5 T.lk.length A.c5,.slice A.a6 T.dr.length A.c6,.slice A.a7 T.al.length A.c7],.slice a (k+1) c] (Go.Sort.grow (redrawn wr d) os) fun e w' =>e=.returned (.bool mm)∧Below (Go.Sort.grow (redrawn wr d) os).heap.size (Go.Sort.grow (redrawn wr d) os) w'):=kz (fun d os =>by
    have hb:=Xu wr d os;have q:=JZ T (oz HT) hs A s ((zh s).take (k+1)) (by rw [hl];omega) a c _ ((oz HX2).below hb).ti (zfK (k+1) ((oz HL2).below hb hb.size))
    rwa [hl,hmm] at q)
   have HMM:=kz hmm;have HK:=kz hx;clear hmm hx hl;have z0:=zP (oz HX2).z0;have z1:=zP (oz HX2).z1;have z2:=zP (oz HX2).z2;have z3:=zP (oz HX2).z3;have z4:=zP (oz HX2).z4;have z5:=zP (oz HX2).z5;have z6:=zP (oz HX2).z6;have z7:=zP (oz HX2).z7;go_wp2_with fail
   refine JG (by kernel_rfl) (by kernel_rfl) ?_;repeat (go_big_quiet_step (exact QH (oz HM _ _)))
   first | refine wpQuiet_nil ?_ | skip
   rintro w' ⟨dq,rfl⟩;have hb:=Xu wr dq.d dq.os;generalize Go.Sort.grow (redrawn wr dq.d) dq.os=w2 at *;have HB3:=kz ((oz HB).trans (hb.mono (oz HB).size));have HX3:=kz ((oz HX2).below hb);have HL3:=kz ((oz HL2).below hb hb.size);have HP3:=kz ((oz HP2).below hb (oz HP2).lt);clear hb HM HX2 HL2 HP2 HB z0 z1 z2 z3 z4 z5 z6 z7;cases mm with
   | false =>
    have HN2:Hz (∀ j,j < k+1→Q2 T s ((zh s).take (j+1))=false):=kz (fun j hj =>by
     by_cases hjk:j < k
     ·exact oz HN j hjk
     ·obtain rfl:j=k:=by omega
      exact oz HMM)
    clear HN HMM HK HX3 HL3 HP3;go_wp2_with fail
    exact ⟨⟨k+1,by omega,by first | rfl | go_num,HN2,HB3⟩,by simp [intOf];omega⟩
   | true =>
    have HV:=kz (zc1 (T:=T) (oz HK) (by rw [← QN];exact oz HMM) (fun j hj =>by rw [← QN];exact oz HN j hj));obtain ⟨g,o,ea,hg,s0,s1,s2,s3⟩:=Jt (oz HL3) (oz HK);have HBW:=kz (oz HX3).bl;have p0:=(oz HP3).cell 0;have p1:=(oz HP3).cell 1;have pf:=(oz HP3).frozen;subst ea;clear HN HMM HK HL3 HX3 HX1 HL s0 s2 s3;go_wp2_with fail
    have q:=((oz HP3).set 0 (.int .i64 x)).set 1 (.int .i64 k);have c0:=q.cell 0;have c1:=q.cell 1;exact XS (v := .tuple #[.agg #[.int .i64 x,.int .i64 k],.bool true]) (by simp [results,Tryz.f23,go_sem,c0,c1]) rfl ⟨by rw [oz HV];rfl,((oz HBW).setCell (p:=⟨W.heap.size+1,0,none⟩) (by simp) _).setCell (p:=⟨W.heap.size+1,1,none⟩) (by simp) _⟩
  ·have k1:¬ (k:Int) < ((zh s).length:Int):=by omega
   have HV:=kz (zfx (oz HN) (by omega));have HBW:=kz (oz HX2).bl;have p0:=(oz HP2).cell 0;have p1:=(oz HP2).cell 1;have pf:=(oz HP2).frozen;clear HN HX1 HL HL2 HX2;go_wp2_with fail
   have q:=((oz HP2).set 0 (.int .i64 0)).set 1 (.int .i64 0);have c0:=q.cell 0;have c1:=q.cell 1;exact XS (v := .tuple #[.agg #[.int .i64 0,.int .i64 0],.bool false]) (by simp [results,Tryz.f23,go_sem,c0,c1]) rfl ⟨by rw [oz HV];rfl,((oz HBW).setCell (p:=⟨W.heap.size+1,0,none⟩) (by simp) _).setCell (p:=⟨W.heap.size+1,1,none⟩) (by simp) _⟩
set_option maxRecDepth 100000
set_option maxHeartbeats 8000000
def zeE (s:ByteArray) (zs:List Nat):Bool:=zs.all (fun x =>decide ((rn s x:Int) < 128))
def zc5 (T:TV) (s:ByteArray) (zs:List Nat):Bool:=zs.all (fun x =>yP T (spX s x) || !(bdX T (spX s x)).isEmpty)
def zgF (T:TV) (s:ByteArray):Int:=if zeE s (zh s) then 1 else if Q2 T s (zh s) then (if zc5 T s (zh s) then 3 else 4) else 2
theorem zbu {α : Type} {p : α→Bool} {l:List α} {k:Nat} {x : α} {b:Bool} (hx:l[k]?=some x) (h:(l.take k).all p=b):(l.take (k+1)).all p=(b && p x):=by
 rw [List.take_add_one,hx,Option.toList_some,List.all_append,h];simp
theorem zbA (T:TV) (hT:TabB T) (hs:T.sc.length≤300000) (A:TbA) (s:ByteArray) (hz:s.size≤1000000) (W:World) (hA:Yb W T A) :
  Calls Tryz.prog 26 #[.agg #[.slice A.a0 T.sc.length A.c0,.slice A.a1 T.co.length A.c1,.slice A.a2 T.ma.length A.c2,.slice A.a3 T.pr.length A.c3,.slice A.a4 T.fo.length A.c4,.slice A.a5 T.lk.length A.c5,.slice A.a6 T.dr.length A.c6,.slice A.a7 T.al.length A.c7],.string s] W fun e w' =>e=.returned (.int .i64 (zgF T s))∧Below W.heap.size W w':=by
 have hmx:=zdA
 have HX:=kz (TbX.start hA);have hst:=zX s;have HT:=kz hT;have HV0:=kz (show zgF T s=if zeE s (zh s) then 1 else if Q2 T s (zh s) then (if zc5 T s (zh s) then 3 else 4) else 2 from rfl);generalize zgF T s=lv at *;clear hA hT;go_enter Tryz.func26,Tryz.ntmps26;go_wp2_with fail
 generalize W.alloc _=w0 at *;refine (Zr s (by omega) w0).mono ?_;rintro e w1 ⟨v0,rfl,hown,hb⟩;obtain ⟨a,c,rfl⟩:=zL hown;have HL:=kz (yY hown);have HX1:=kz ((oz HX).below hb);clear hown hb HX;go_wp2_with fail
 go_loopw [6,7,8] (fun av so i wr => ∃ (k:Nat) (a1 b1:Bool),k≤(zh s).length∧av=.bool a1∧so=.bool b1∧i=.int .i64 k∧Hz (((zh s).take k).all (fun x =>decide ((rn s x:Int) < 128))=a1)∧Hz (((zh s).take k).all (fun x =>yP T (spX s x) || !(bdX T (spX s x)).isEmpty)=b1)∧Hz (Below w1.heap.size w1 wr)) (fun _ _ i _ =>(zh s).length - (intOf i).toNat)
 case atStart =>exact ⟨0,true,true,Zn _,rfl,rfl,rfl,kz rfl,kz rfl,kz zl⟩
 case round =>
  obtain ⟨k,a1,b1,hk,rfl,rfl,rfl,HA1,HS1,HB⟩:=hrel;have HX2:=kz ((oz HX1).below (oz HB));have HL2:=kz ((oz HL).below (oz HB) (oz HB).size);by_cases hkn:k < (zh s).length
  ·obtain ⟨x,hx⟩:∃ x,(zh s)[k]?=some x:=⟨_,qR hkn⟩;obtain ⟨g,o,ea,hg,s0,s1,s2,s3⟩:=Jt (oz HL2) hx;have k1:(k:Int) < ((zh s).length:Int):=by omega
   have k2:=Zp k
   have HK:=kz hx;obtain ⟨fb,hfb⟩:∃ fb,yP T (spX s x)=fb:=⟨_,rfl⟩;have HFB:=kz hfb;have HF:Hz (∀ w,Yb w T A→Calls Tryz.prog 54 #[.agg #[.slice A.a0 T.sc.length A.c0,.slice A.a1 T.co.length A.c1,.slice A.a2 T.ma.length A.c2,.slice A.a3 T.pr.length A.c3,.slice A.a4 T.fo.length A.c4,.slice A.a5 T.lk.length A.c5,.slice A.a6 T.dr.length A.c6,.slice A.a7 T.al.length A.c7],.agg #[.int .i32 (rn s x),.int .i64 x,.int .i64 (wd s x),.bool (j6 s x)]] w fun e w' =>e=.returned (.bool fb)∧Below w.heap.size w w'):=kz (fun w h =>by
    have q:=ZV T (oz HT) A (rn s x) x (wd s x) (j6 s x) w h
    rwa [show yP T (((rn s x:Nat):Int),j6 s x)=fb from hfb] at q)
   have HXr:=kz (fun d os =>((oz HX2).below (Xu wr d os)).ti);have HA2:=kz (zbu hx (oz HA1));have HS2:=kz (zbu hx (oz HS1));have HD:Hz (∀ n,n < T.sc.length→∀ w,Yb w T A→Calls Tryz.prog 55 #[.agg #[.slice A.a0 T.sc.length A.c0,.slice A.a1 T.co.length A.c1,.slice A.a2 T.ma.length A.c2,.slice A.a3 T.pr.length A.c3,.slice A.a4 T.fo.length A.c4,.slice A.a5 T.lk.length A.c5,.slice A.a6 T.dr.length A.c6,.slice A.a7 T.al.length A.c7],.agg #[.int .i32 (rn s x),.int .i64 x,.int .i64 (wd s x),.bool (j6 s x)],.int .i64 n] w fun e w' =>e=.returned (.bool (Xg T n (spX s x)))∧Below w.heap.size w w'):=kz (fun n hn w h =>J0 T (oz HT) A (rn s x) x (wd s x) (j6 s x) n hn w h);have y0:=s0;have s0:=zP s0;have s1:=zP s1;have s2:=zP s2;have s3:=zP s3;subst ea;clear hg hx hfb HA1 HS1;have z0:=zP (oz HX2).z0;have z1:=zP (oz HX2).z1;have z2:=zP (oz HX2).z2;have z3:=zP (oz HX2).z3;have z4:=zP (oz HX2).z4;have z5:=zP (oz HX2).z5;have z6:=zP (oz HX2).z6;have z7:=zP (oz HX2).z7;by_cases hr:(128:Int)≤(rn s x:Int)
   ·have HA3:Hz (((zh s).take (k+1)).all (fun x =>decide ((rn s x:Int) < 128))=false):=kz (by rw [oz HA2];simp;omega);clear HA2;go_wp2_with fail
    refine JG (by kernel_rfl) (by kernel_rfl) ?_;repeat (go_big_quiet_step (exact QH (oz HF _ (oz HXr _ _))))
    first | refine wpQuiet_nil ?_ | skip
    rintro w' ⟨dq,rfl⟩;have hb:=Xu wr dq.d dq.os;generalize Go.Sort.grow (redrawn wr dq.d) dq.os=w2 at *;have HB3:=kz ((oz HB).trans (hb.mono (oz HB).size));have HX3:=kz ((oz HX2).below hb);have HL3:=kz ((oz HL2).below hb hb.size);clear hb HF HXr HX2 HL2 HB z0 z1 z2 z3 z4 z5 z6 z7 s0 s1 s2 s3 y0;cases fb with
    | true =>
     have HS3:Hz (((zh s).take (k+1)).all (fun x =>yP T (spX s x) || !(bdX T (spX s x)).isEmpty)=b1):=kz (by rw [oz HS2,oz HFB];simp);clear HS2 HFB HD HK HX3 HL3;go_wp2_with fail
     exact ⟨⟨k+1,false,b1,by omega,rfl,rfl,by first | rfl | go_num,HA3,HS3,HB3⟩,by simp [intOf];omega⟩
    | false =>
     go_wp2_with fail
     go_loopw [9] (fun nv wr => ∃ j:Nat,j≤T.sc.length∧nv=.int .i64 j∧Hz (∀ i,i < j→Xg T i (spX s x)=false)∧Hz (Below w2.heap.size w2 wr)) (fun nv _ =>T.sc.length - (intOf nv).toNat)
     case atStart =>exact ⟨0,Zn _,rfl,kz (fun i hi =>by omega),kz zl⟩
     case round =>
      obtain ⟨j,hj,rfl,HJ,HBq⟩:=hrel;have HXq:=kz ((oz HX3).below (oz HBq));have HLq:=kz ((oz HL3).below (oz HBq) (oz HBq).size);have HB4:=kz ((oz HB3).trans ((oz HBq).mono (oz HB3).size));obtain ⟨g',o',ea,hg,s0,s1,s2,s3⟩:=Jt (oz HLq) (oz HK);obtain ⟨rfl,rfl⟩:g=g'∧o=o':=by cases ea;exact ⟨rfl,rfl⟩
      have s0:=zP s0;have s1:=zP s1;have s2:=zP s2;have s3:=zP s3;clear ea hg;have z0:=zP (oz HXq).z0;have z1:=zP (oz HXq).z1;have z2:=zP (oz HXq).z2;have z3:=zP (oz HXq).z3;have z4:=zP (oz HXq).z4;have z5:=zP (oz HXq).z5;have z6:=zP (oz HXq).z6;have z7:=zP (oz HXq).z7;by_cases hjn:j < T.sc.length
      ·have j1:(j:Int) < (T.sc.length:Int):=by omega
       have j3:(j == T.sc.length)=false:=by rw [beq_eq_false_iff_ne];omega
       have j4:((j:Int) == (T.sc.length:Int))=false:=by rw [beq_eq_false_iff_ne];omega
       obtain ⟨bb,hbb⟩:∃ bb,Xg T j (spX s x)=bb:=⟨_,rfl⟩;have HDq:Hz (∀ d os,Calls Tryz.prog 55 #[.agg #[.slice A.a0 T.sc.length A.c0,.slice A.a1 T.co.length A.c1,.slice A.a2 T.ma.length A.c2,.slice A.a3 T.pr.length A.c3,.slice A.a4 T.fo.length A.c4,.slice A.a5 T.lk.length A.c5,.slice A.a6 T.dr.length A.c6,.slice A.a7 T.al.length A.c7],.agg #[.int .i32 (rn s x),.int .i64 x,.int .i64 (wd s x),.bool (j6 s x)],.int .i64 j] (Go.Sort.grow (redrawn wr d) os) fun e w' =>e=.returned (.bool bb)∧Below (Go.Sort.grow (redrawn wr d) os).heap.size (Go.Sort.grow (redrawn wr d) os) w'):=kz (fun d os =>by
        have q:=oz HD j hjn _ ((oz HXq).below (Xu wr d os)).ti
        rwa [hbb] at q)
       have HBB:=kz hbb;clear hbb;cases bb with
       | false =>
        go_wp2_with fail
        refine JG (by kernel_rfl) (by kernel_rfl) ?_;repeat (go_big_quiet_step (exact QH (oz HDq _ _)))
        first | refine wpQuiet_nil ?_ | skip
        rintro w' ⟨dq,rfl⟩;have HBr:=kz ((oz HBq).trans ((Xu wr dq.d dq.os).mono (oz HBq).size));have HJ2:Hz (∀ i,i < j+1→Xg T i (spX s x)=false):=kz (fun i hi =>by
         by_cases hij:i < j
         ·exact oz HJ i hij
         ·obtain rfl:i=j:=by omega
          exact oz HBB)
        clear s0 s1 s2 s3 z0 z1 z2 z3 z4 z5 z6 z7 HJ HBB HDq;go_wp2_with fail
        exact ⟨⟨j+1,by omega,by first | rfl | go_num,HJ2,HBr⟩,by simp [intOf];omega⟩
       | true =>
        go_wp2_with fail
        refine JG (by kernel_rfl) (by kernel_rfl) ?_;repeat (go_big_quiet_step (exact QH (oz HDq _ _)))
        first | refine wpQuiet_nil ?_ | skip
        rintro w' ⟨dq,rfl⟩;have hb:=Xu wr dq.d dq.os;generalize Go.Sort.grow (redrawn wr dq.d) dq.os=w5 at *;have HB5:=kz ((oz HB4).trans (hb.mono (oz HB4).size));have HX5:=kz ((oz HXq).below hb);have HS3:Hz (((zh s).take (k+1)).all (fun x =>yP T (spX s x) || !(bdX T (spX s x)).isEmpty)=b1):=kz (by
         rw [oz HS2,oz HFB];have hm:=zaU hjn (spX s x);rw [oz HFB,oz HBB] at hm;cases hq:bdX T (spX s x) with
         | nil =>rw [hq] at hm;cases hm
         | cons y l =>simp)
        clear s0 s1 s2 s3 z0 z1 z2 z3 z4 z5 z6 z7 HJ HBB HDq hb HXq HLq;have z0:=(oz HX5).z0;have z1:=(oz HX5).z1;have z2:=(oz HX5).z2;have z3:=(oz HX5).z3;have z4:=(oz HX5).z4;have z5:=(oz HX5).z5;have z6:=(oz HX5).z6;have z7:=(oz HX5).z7;go_wp2_with fail
        exact ⟨⟨k+1,false,b1,by omega,rfl,rfl,by first | rfl | go_num,HA3,HS3,HB5⟩,by simp [intOf];omega⟩
      ·obtain rfl:j=T.sc.length:=by omega
       have j1:¬ T.sc.length < T.sc.length:=by omega
       go_wp2_with fail
       refine JG (by kernel_rfl) (by kernel_rfl) ?_;repeat (go_big_quiet_step (fail))
       first | refine wpQuiet_nil ?_ | skip
       rintro w' ⟨dq,rfl⟩;have hb:=Xu wr dq.d dq.os;generalize Go.Sort.grow (redrawn wr dq.d) dq.os=w5 at *;have HB5:=kz ((oz HB4).trans (hb.mono (oz HB4).size));have HX5:=kz ((oz HXq).below hb);have HS3:Hz (((zh s).take (k+1)).all (fun x =>yP T (spX s x) || !(bdX T (spX s x)).isEmpty)=false):=kz (by
        rw [oz HS2,oz HFB,zfk T _ (oz HFB)];have:(List.range T.sc.length).all (fun n => !Xg T n (spX s x))=true:=by
         rw [List.all_eq_true];intro n hn;rw [oz HJ n (List.mem_range.1 hn)];rfl
        rw [this];simp)
       clear s0 s1 s2 s3 z0 z1 z2 z3 z4 z5 z6 z7 HJ hb HXq HLq;have z0:=(oz HX5).z0;have z1:=(oz HX5).z1;have z2:=(oz HX5).z2;have z3:=(oz HX5).z3;have z4:=(oz HX5).z4;have z5:=(oz HX5).z5;have z6:=(oz HX5).z6;have z7:=(oz HX5).z7;go_wp2_with fail
       exact ⟨⟨k+1,false,false,by omega,rfl,rfl,by first | rfl | go_num,HA3,HS3,HB5⟩,by simp [intOf];omega⟩
   ·have HA3:Hz (((zh s).take (k+1)).all (fun x =>decide ((rn s x:Int) < 128))=a1):=kz (by rw [oz HA2,JS (by omega),Bool.and_true]);clear HA2;go_wp2_with fail
    refine JG (by kernel_rfl) (by kernel_rfl) ?_;repeat (go_big_quiet_step (exact QH (oz HF _ (oz HXr _ _))))
    first | refine wpQuiet_nil ?_ | skip
    rintro w' ⟨dq,rfl⟩;have hb:=Xu wr dq.d dq.os;generalize Go.Sort.grow (redrawn wr dq.d) dq.os=w2 at *;have HB3:=kz ((oz HB).trans (hb.mono (oz HB).size));have HX3:=kz ((oz HX2).below hb);have HL3:=kz ((oz HL2).below hb hb.size);clear hb HF HXr HX2 HL2 HB z0 z1 z2 z3 z4 z5 z6 z7 s0 s1 s2 s3 y0;cases fb with
    | true =>
     have HS3:Hz (((zh s).take (k+1)).all (fun x =>yP T (spX s x) || !(bdX T (spX s x)).isEmpty)=b1):=kz (by rw [oz HS2,oz HFB];simp);clear HS2 HFB HD HK HX3 HL3;go_wp2_with fail
     exact ⟨⟨k+1,a1,b1,by omega,rfl,rfl,by first | rfl | go_num,HA3,HS3,HB3⟩,by simp [intOf];omega⟩
    | false =>
     go_wp2_with fail
     go_loopw [9] (fun nv wr => ∃ j:Nat,j≤T.sc.length∧nv=.int .i64 j∧Hz (∀ i,i < j→Xg T i (spX s x)=false)∧Hz (Below w2.heap.size w2 wr)) (fun nv _ =>T.sc.length - (intOf nv).toNat)
     case atStart =>exact ⟨0,Zn _,rfl,kz (fun i hi =>by omega),kz zl⟩
     case round =>
      obtain ⟨j,hj,rfl,HJ,HBq⟩:=hrel;have HXq:=kz ((oz HX3).below (oz HBq));have HLq:=kz ((oz HL3).below (oz HBq) (oz HBq).size);have HB4:=kz ((oz HB3).trans ((oz HBq).mono (oz HB3).size));obtain ⟨g',o',ea,hg,s0,s1,s2,s3⟩:=Jt (oz HLq) (oz HK);obtain ⟨rfl,rfl⟩:g=g'∧o=o':=by cases ea;exact ⟨rfl,rfl⟩
      have s0:=zP s0;have s1:=zP s1;have s2:=zP s2;have s3:=zP s3;clear ea hg;have z0:=zP (oz HXq).z0;have z1:=zP (oz HXq).z1;have z2:=zP (oz HXq).z2;have z3:=zP (oz HXq).z3;have z4:=zP (oz HXq).z4;have z5:=zP (oz HXq).z5;have z6:=zP (oz HXq).z6;have z7:=zP (oz HXq).z7;by_cases hjn:j < T.sc.length
      ·have j1:(j:Int) < (T.sc.length:Int):=by omega
       have j3:(j == T.sc.length)=false:=by rw [beq_eq_false_iff_ne];omega
       have j4:((j:Int) == (T.sc.length:Int))=false:=by rw [beq_eq_false_iff_ne];omega
       obtain ⟨bb,hbb⟩:∃ bb,Xg T j (spX s x)=bb:=⟨_,rfl⟩;have HDq:Hz (∀ d os,Calls Tryz.prog 55 #[.agg #[.slice A.a0 T.sc.length A.c0,.slice A.a1 T.co.length A.c1,.slice A.a2 T.ma.length A.c2,.slice A.a3 T.pr.length A.c3,.slice A.a4 T.fo.length A.c4,.slice A.a5 T.lk.length A.c5,.slice A.a6 T.dr.length A.c6,.slice A.a7 T.al.length A.c7],.agg #[.int .i32 (rn s x),.int .i64 x,.int .i64 (wd s x),.bool (j6 s x)],.int .i64 j] (Go.Sort.grow (redrawn wr d) os) fun e w' =>e=.returned (.bool bb)∧Below (Go.Sort.grow (redrawn wr d) os).heap.size (Go.Sort.grow (redrawn wr d) os) w'):=kz (fun d os =>by
        have q:=oz HD j hjn _ ((oz HXq).below (Xu wr d os)).ti
        rwa [hbb] at q)
       have HBB:=kz hbb;clear hbb;cases bb with
       | false =>
        go_wp2_with fail
        refine JG (by kernel_rfl) (by kernel_rfl) ?_;repeat (go_big_quiet_step (exact QH (oz HDq _ _)))
        first | refine wpQuiet_nil ?_ | skip
        rintro w' ⟨dq,rfl⟩;have HBr:=kz ((oz HBq).trans ((Xu wr dq.d dq.os).mono (oz HBq).size));have HJ2:Hz (∀ i,i < j+1→Xg T i (spX s x)=false):=kz (fun i hi =>by
         by_cases hij:i < j
         ·exact oz HJ i hij
         ·obtain rfl:i=j:=by omega
          exact oz HBB)
        clear s0 s1 s2 s3 z0 z1 z2 z3 z4 z5 z6 z7 HJ HBB HDq;go_wp2_with fail
        exact ⟨⟨j+1,by omega,by first | rfl | go_num,HJ2,HBr⟩,by simp [intOf];omega⟩
       | true =>
        go_wp2_with fail
        refine JG (by kernel_rfl) (by kernel_rfl) ?_;repeat (go_big_quiet_step (exact QH (oz HDq _ _)))
        first | refine wpQuiet_nil ?_ | skip
        rintro w' ⟨dq,rfl⟩;have hb:=Xu wr dq.d dq.os;generalize Go.Sort.grow (redrawn wr dq.d) dq.os=w5 at *;have HB5:=kz ((oz HB4).trans (hb.mono (oz HB4).size));have HX5:=kz ((oz HXq).below hb);have HS3:Hz (((zh s).take (k+1)).all (fun x =>yP T (spX s x) || !(bdX T (spX s x)).isEmpty)=b1):=kz (by
         rw [oz HS2,oz HFB];have hm:=zaU hjn (spX s x);rw [oz HFB,oz HBB] at hm;cases hq:bdX T (spX s x) with
         | nil =>rw [hq] at hm;cases hm
         | cons y l =>simp)
        clear s0 s1 s2 s3 z0 z1 z2 z3 z4 z5 z6 z7 HJ HBB HDq hb HXq HLq;have z0:=(oz HX5).z0;have z1:=(oz HX5).z1;have z2:=(oz HX5).z2;have z3:=(oz HX5).z3;have z4:=(oz HX5).z4;have z5:=(oz HX5).z5;have z6:=(oz HX5).z6;have z7:=(oz HX5).z7;go_wp2_with fail
        exact ⟨⟨k+1,a1,b1,by omega,rfl,rfl,by first | rfl | go_num,HA3,HS3,HB5⟩,by simp [intOf];omega⟩
      ·obtain rfl:j=T.sc.length:=by omega
       have j1:¬ T.sc.length < T.sc.length:=by omega
       go_wp2_with fail
       refine JG (by kernel_rfl) (by kernel_rfl) ?_;repeat (go_big_quiet_step (fail))
       first | refine wpQuiet_nil ?_ | skip
       rintro w' ⟨dq,rfl⟩;have hb:=Xu wr dq.d dq.os;generalize Go.Sort.grow (redrawn wr dq.d) dq.os=w5 at *;have HB5:=kz ((oz HB4).trans (hb.mono (oz HB4).size));have HX5:=kz ((oz HXq).below hb);have HS3:Hz (((zh s).take (k+1)).all (fun x =>yP T (spX s x) || !(bdX T (spX s x)).isEmpty)=false):=kz (by
        rw [oz HS2,oz HFB,zfk T _ (oz HFB)];have:(List.range T.sc.length).all (fun n => !Xg T n (spX s x))=true:=by
         rw [List.all_eq_true];intro n hn;rw [oz HJ n (List.mem_range.1 hn)];rfl
        rw [this];simp)
       clear s0 s1 s2 s3 z0 z1 z2 z3 z4 z5 z6 z7 HJ hb HXq HLq;have z0:=(oz HX5).z0;have z1:=(oz HX5).z1;have z2:=(oz HX5).z2;have z3:=(oz HX5).z3;have z4:=(oz HX5).z4;have z5:=(oz HX5).z5;have z6:=(oz HX5).z6;have z7:=(oz HX5).z7;go_wp2_with fail
       exact ⟨⟨k+1,a1,false,by omega,rfl,rfl,by first | rfl | go_num,HA3,HS3,HB5⟩,by simp [intOf];omega⟩
  ·have k1:¬ (k:Int) < ((zh s).length:Int):=by omega
   have HA:Hz (zeE s (zh s)=a1):=kz (by
    have:=oz HA1
    rwa [List.take_of_length_le (by omega)] at this)
   have HS:Hz (zc5 T s (zh s)=b1):=kz (by
    have:=oz HS1
    rwa [List.take_of_length_le (by omega)] at this)
   have HM:=kz (JZ T (oz HT) hs A s (zh s) (by omega) a c wr (oz HX2).ti (oz HL2));have HW0:=oz HV0;rw [oz HA,oz HS] at HW0;obtain ⟨mm,hmm⟩:∃ mm,Q2 T s (zh s)=mm:=⟨_,rfl⟩;rw [hmm] at HW0 HM;have HV:=kz HW0;clear HW0 hmm HA HS HA1 HS1 HV0 HX1 HL;have z0:=(oz HX2).z0;have z1:=(oz HX2).z1;have z2:=(oz HX2).z2;have z3:=(oz HX2).z3;have z4:=(oz HX2).z4;have z5:=(oz HX2).z5;have z6:=(oz HX2).z6;have z7:=(oz HX2).z7;cases a1 with
   | true =>
    go_wp2_with fail
    go_ret;exact ⟨by rw [oz HV];rfl,(oz HX2).bl⟩
   | false =>
    go_wp2_with fail
    refine (oz HM).mono ?_;rintro e w2 ⟨rfl,hb⟩;have HB4:=kz ((oz HX2).bl.trans (hb.mono (oz HX2).bl.size));clear hb HM HX2 HL2 HB z0 z1 z2 z3 z4 z5 z6 z7;cases mm with
    | false =>
     go_wp2_with fail
     go_ret;exact ⟨by rw [oz HV];rfl,oz HB4⟩
    | true =>
     cases b1 with
     | true =>
      go_wp2_with fail
      go_ret;exact ⟨by rw [oz HV];rfl,oz HB4⟩
     | false =>
      go_wp2_with fail
      go_ret;exact ⟨by rw [oz HV];rfl,oz HB4⟩
set_option maxRecDepth 100000
set_option maxHeartbeats 8000000
theorem zaF {T:World} {lo b i E sz n:Nat} {v:Value} {xs:List Value} (h:T.ownsRow lo E sz v n xs) (hb:b < lo) (u:Value):(T.setCell ⟨b,i,none⟩ u).ownsRow lo E sz v n xs:=by
 refine h.kept (zV T ⟨b,i,none⟩ u) ?_;cases hv:v.ownBlock with
 | none =>exact .inl rfl
 | some k =>exact .inr (fun e =>by have:=(h.lt k hv).1;simp at e;omega)
theorem KH {T:TV} (hO:zx T) (B:Nat) (W:World) (h:BookAt W B T):Calls Tryz.prog 40 #[.pointer (some ⟨B,0,none⟩)] W fun e w' => ∃ v,e=.returned (.agg #[v,.bool false])∧w'.ownsRow W.heap.size 3 1 v (List.range T.sc.length).length ((List.range T.sc.length).map qA)∧Below W.heap.size W w':=by
 obtain ⟨i0,hi,hz0,hz1,hz2⟩:=info_parts zap;have hL:=hO.l0;have r0:=(Blk.new W #[.slice none 0 0,.bool false] 104).alloc (.cells #[.slice none 0 0,.bool false] 104);have t0:=Blk.new (W.alloc (.cells #[.slice none 0 0,.bool false] 104)) #[.slice none 0 0,.bool false] 104;have hb0:=((Below.refl W.heap.size W).alloc zD (.cells #[.slice none 0 0,.bool false] 104)).alloc (by simp) (.cells #[.slice none 0 0,.bool false] 104);have hz:((W.alloc (.cells #[.slice none 0 0,.bool false] 104)).alloc (.cells #[.slice none 0 0,.bool false] 104)).heap.size=W.heap.size+2:=by simp
 have HC:=kz (zcR hO B _ (h.below (hb0)));simp only [World.size_alloc] at t0;have HR:=kz r0;have HT:=kz t0;have HB:=kz hb0;clear r0 t0 hb0 h hO;go_enter Tryz.func40,Tryz.ntmps40;go_wp2_with fail
 generalize (W.alloc _).alloc _=w0 at *;refine (oz HC).mono ?_;rintro e w1 ⟨v,rfl,hown,hb⟩;obtain ⟨a,c,rfl⟩:=zL hown;have hge:=hb.size;have HR1:=kz ((oz HR).below hb (by omega));have HT1:=kz ((oz HT).below hb (by omega));have HB1:=kz ((oz HB).trans (hb.mono (by omega)));have hge1:W.heap.size+2≤w1.heap.size:=by omega
 clear hown hb HR HT HB HC hge hz;go_wp2_with fail
 go_loopw [4,8] (fun _ s8 wr => ∃ (k:Nat) (v:Value),k≤T.sc.length∧s8=.int .i64 k∧Hz (wr.ownsRow w1.heap.size 3 1 v (List.range k).length ((List.range k).map qA))∧Hz (Blk wr W.heap.size #[.slice none 0 0,.bool false] 104)∧Hz (Blk wr (W.heap.size+1) #[v,.bool false] 104)∧Hz (Below W.heap.size W wr)∧w1.heap.size≤wr.heap.size) (fun _ s8 _ =>T.sc.length - (intOf s8).toNat)
 case atStart =>exact ⟨0,_,Zn _,rfl,kz (World.ownsRow_nil _ _ _ _),HR1,HT1,HB1,zD⟩
 case round =>
  obtain ⟨k,v,hk,rfl,HQ,HR,HT,HB,hge⟩:=hrel;by_cases hkn:k < T.sc.length
  ·have hk1:(k:Int) < (T.sc.length:Int):=by omega
   have t0:=(oz HT).cell 0;have tf:=(oz HT).frozen;have hrl:((List.range k).map qA).length=k:=by simp
   go_wp2_with (at_builtin;refine Z7 rfl _ _ 35 3 rfl i0 _ 8 Tryz.underlying35 hi hz0 hz1 hz2 rfl (by decide) w1.heap.size v ((List.range k).map qA) (qA k) rfl (by rw [hrl];omega) wr rfl rfl (by rw [hrl];have:=oz HQ;rwa [List.length_range] at this) hge _ rfl rfl ?_)
   intro v' w3 ho hb
   try rw [show ((List.range k).map qA++[qA k]).length=k+1 by simp] at ho
   obtain ⟨a',c',rfl⟩:=zL ho;have HR3:=kz ((oz HR).below hb (by omega));have HT3:=kz ((oz HT).below hb (by omega));have HB3:=kz ((oz HB).trans (hb.mono (by omega)));have hs3:=hb.size;have t3:=(oz HT3).cell 0;have tf3:=(oz HT3).frozen;have HO3:Hz ((w3.setCell ⟨W.heap.size+1,0,none⟩ (.slice a' (k+1) c')).ownsRow w1.heap.size 3 1 (.slice a' (k+1) c') (List.range (k+1)).length ((List.range (k+1)).map qA)):=kz (by
    have:=zaF (i:=0) (b:=W.heap.size+1) ho (by omega) (.slice a' (k+1) c');rw [List.range_succ,List.map_append,List.length_append,List.map_singleton];first | exact this | simpa using this)
   have HR4:=kz ((oz HR3).other (i:=0) (B':=W.heap.size+1) (by omega) (.slice a' (k+1) c'));have HT4:=kz ((oz HT3).set 0 (.slice a' (k+1) c'));have HB4:=kz ((oz HB3).setCell (p:=⟨W.heap.size+1,0,none⟩) (by simp) (.slice a' (k+1) c'));have hs4:w1.heap.size≤(w3.setCell ⟨W.heap.size+1,0,none⟩ (.slice a' (k+1) c')).heap.size:=by have:=(KeepsWalks.setCell w3 ⟨W.heap.size+1,0,none⟩ (.slice a' (k+1) c')).size;omega
   clear ho hb t0 tf HQ HR HT HB HR3 HT3 HB3;go_wp2_with fail
   exact ⟨⟨k+1,.slice a' (k+1) c',by omega,by go_num,HO3,HR4,HT4,HB4,hs4⟩,by simp [intOf];omega⟩
  ·have hk1:¬ (k:Int) < (T.sc.length:Int):=by omega
   obtain rfl:k=T.sc.length:=by omega
   obtain ⟨av,cv,rfl⟩:=zL (oz HQ);rw [List.length_range] at *;have t0:=(oz HT).cell 0;have t1:=(oz HT).cell 1;have r0:=(oz HR).cell 0;have r1:=(oz HR).cell 1;have rf:=(oz HR).frozen;go_wp2_with fail
   have q:=((oz HR).set 0 (.slice av T.sc.length cv)).set 1 (.bool false);have c0:=q.cell 0;have c1:=q.cell 1;refine XS (v := .agg #[.slice av T.sc.length cv,.bool false]) (by simp [results,Tryz.f40,go_sem,c0,c1]) rfl ⟨.slice av T.sc.length cv,rfl, ?_, ?_⟩
   ·exact yH (zaF (zaF (oz HQ) (by omega) _) (by omega) _) (by omega)
   ·exact ((oz HB).setCell (p:=⟨W.heap.size,0,none⟩) (by simp) _).setCell (p:=⟨W.heap.size,1,none⟩) (by simp) _
theorem zgy (T:TV) (x:Int × Bool):zaX (bdX T x):=by
 unfold bdX;split
 ·intro i j a b _ h;simp at h
 ·exact zbx _
theorem zjG (T:TV) (x:Int × Bool):(bdX T x).length≤T.sc.length:=by
 unfold bdX;split
 ·simp
 ·unfold J9;refine Nat.le_trans (List.length_filter_le _ _) ?_;rw [List.length_range];exact zD
theorem Ke {T:TV} (hO:zx T) (B:Nat) (r wd:Int) (bad:Bool) (hr:R32 r) (W:World) (h:BookAt W B T):Calls Tryz.prog 45 #[.pointer (some ⟨B,0,none⟩),.agg #[.int .i32 r,.int .i64 wd,.bool bad]] W fun e w' => ∃ v,e=.returned (.tuple #[v,.bool (yP T (r,bad))])∧w'.ownsRow W.heap.size 3 1 v (bdX T (r,bad)).length ((bdX T (r,bad)).map qA)∧Below W.heap.size W w':=by
 have hb0:=(Below.refl W.heap.size W).alloc zD (.cells #[.int .i32 r,.int .i64 wd,.bool bad] 110);have hx0:=Blk.new W #[.int .i32 r,.int .i64 wd,.bool bad] 110;have HB0:=kz hb0;have HX0:=kz hx0;have HC:=kz (fun w1 (hb:Below W.heap.size W w1) =>zbK hO B r w1 (h.below hb));have HK:=kz (fun w1 (hb:Below W.heap.size W w1) =>Ya hO B r hr w1 (h.below hb));have HS:=kz (fun w1 (hb:Below W.heap.size W w1) =>zaR hO B r w1 (h.below hb));have hlt0:=hx0.lt;clear h hb0 hx0;cases bad with
 | true =>
  have hf:yP T (r,true)=false:=rfl;have hd:bdX T (r,true)=[]:=rfl;rw [hf,hd];have x2:=(oz HX0).cell 2;clear HC HK HS HX0 hf hd;go_enter Tryz.func45,Tryz.ntmps45;go_wp2_with fail
  exact XS (results_tmp2 Tryz.results45 _ _ _) rfl ⟨_,rfl,World.ownsRow_nil _ _ _ _,oz HB0⟩
 | false =>
  go_enter Tryz.func45,Tryz.ntmps45;have x0:=(oz HX0).cell 0;have x2:=(oz HX0).cell 2;go_wp2_with fail
  generalize W.alloc _=w0 at *;refine (oz HC w0 (oz HB0)).mono ?_;rintro e w1 ⟨rfl,hb⟩;have HB1:=kz ((oz HB0).trans (hb.mono (oz HB0).size));have HX1:=kz ((oz HX0).below hb hlt0);clear hb HC HX0 HB0 x0 x2;cases hco:zi T.co r with
  | true =>
   have hfr:yP T (r,false)=true:=by unfold yP;rw [hco];rfl
   have HBD:=kz (show bdX T (r,false)=[] by unfold bdX;rw [hfr];rfl);have HFR:=kz hfr;clear hfr hco HK HS;go_wp2_with fail
   exact XS (results_tmp2 Tryz.results45 _ _ _) rfl ⟨.slice none 0 0,by rw [oz HFR];rfl,by rw [oz HBD];exact World.ownsRow_nil _ _ _ _,oz HB1⟩
  | false =>
   have HCO:=kz hco;have x0:=(oz HX1).cell 0;have HKC:=kz (oz HK w1 (oz HB1));clear hco HK;go_wp2_with fail
   refine (oz HKC).mono ?_;rintro e w2 ⟨rfl,rfl⟩;clear HKC;by_cases hc:0 < jF T r
   ·have hfr:yP T (r,false)=true:=by unfold yP;rw [oz HCO,JS hc];rfl
    have HBD:=kz (show bdX T (r,false)=[] by unfold bdX;rw [hfr];rfl);have HFR:=kz hfr;have hc2:jF T r > 0:=hc;clear hfr HS;go_wp2_with fail
    exact XS (results_tmp2 Tryz.results45 _ _ _) rfl ⟨.slice none 0 0,by rw [oz HFR];rfl,by rw [oz HBD];exact World.ownsRow_nil _ _ _ _,oz HB1⟩
   ·have hfr:yP T (r,false)=false:=by unfold yP;rw [oz HCO,Zq hc];rfl
    have HBD:=kz (show bdX T (r,false)=J9 T r by unfold bdX;rw [hfr];rfl);have HFR:=kz hfr;have hc2:¬ jF T r > 0:=hc;have HSC:=kz (oz HS w2 (oz HB1));clear hfr HS;go_wp2_with fail
    refine (oz HSC).mono ?_;rintro e w3 ⟨v,rfl,ho,hb⟩;have HF:=kz (yB (yH ho (oz HB1).size) ((oz HB1).trans (hb.mono (oz HB1).size)));clear ho hb HSC x0;go_wp2_with fail
    exact XS (results_tmp2 Tryz.results45 _ _ _) rfl ⟨v,by rw [oz HFR];rfl,by rw [oz HBD];exact (oz HF).1,(oz HF).2⟩
theorem zcX {T:TV} (hO:zx T) (B:Nat) (v:Value) (l:List Nat) (bd:Bool) (r wd:Int) (bad:Bool) (hr:R32 r) (hl:l.length≤900000) (hv:∀ n ∈ l,n≤1048576) (lo:Nat) (W:World) (h:BookAt W B T) (ho:W.ownsRow lo 3 1 v l.length (l.map qA)) (hlo:lo≤W.heap.size) :
  Calls Tryz.prog 42 #[.agg #[v,.bool bd],.pointer (some ⟨B,0,none⟩),.agg #[.int .i32 r,.int .i64 wd,.bool bad]] W fun e w' => ∃ v',e=.returned (.agg #[v',.bool (zay T (l,bd) (r,bad)).2])∧w'.ownsRow lo 3 1 v' (zay T (l,bd) (r,bad)).1.length ((zay T (l,bd) (r,bad)).1.map qA)∧Below W.heap.size W w'∧∀ g,v'.ownBlock=some g→v.ownBlock=some g∨W.heap.size≤g:=by
 have hL:=hO.l0;have hbl:=zjG T (r,bad);obtain ⟨a,c,rfl⟩:=zL ho;have t0:=((Blk.new W #[.slice a l.length c,.bool bd] 104).alloc (.cells #[.int .i32 r,.int .i64 wd,.bool bad] 110)).alloc (.cells #[.slice none 0 0,.bool false] 104);have x0:=(Blk.new (W.alloc (.cells #[.slice a l.length c,.bool bd] 104)) #[.int .i32 r,.int .i64 wd,.bool bad] 110).alloc (.cells #[.slice none 0 0,.bool false] 104);have r0:=Blk.new ((W.alloc (.cells #[.slice a l.length c,.bool bd] 104)).alloc (.cells #[.int .i32 r,.int .i64 wd,.bool bad] 110)) #[.slice none 0 0,.bool false] 104;have hb0:=(((Below.refl W.heap.size W).alloc zD (.cells #[.slice a l.length c,.bool bd] 104)).alloc (by simp) (.cells #[.int .i32 r,.int .i64 wd,.bool bad] 110)).alloc (by simp;omega) (.cells #[.slice none 0 0,.bool false] 104);have hz:(((W.alloc (.cells #[.slice a l.length c,.bool bd] 104)).alloc (.cells #[.int .i32 r,.int .i64 wd,.bool bad] 110)).alloc (.cells #[.slice none 0 0,.bool false] 104)).heap.size=W.heap.size+3:=by simp
 simp only [World.size_alloc] at x0 r0;have HT:=kz t0;have HR:=kz r0;have HB:=kz hb0;have HO:=kz ho;have HX:=kz x0;have HC:=kz (Ke hO B r wd bad hr _ (h.below hb0));have HRS:=kz (zgy T (r,bad));have HV:=kz hv;clear t0 r0 hb0 ho h hO hv x0;have HE:Hz (zay T (l,bd) (r,bad)=if yP T (r,bad) then (l,bd) else (l.filter (fun n =>(bdX T (r,bad)).contains n),true)):=kz rfl;generalize zay T (l,bd) (r,bad)=tx at *;go_enter Tryz.func42,Tryz.ntmps42;have x0:=(oz HX).cell 0;have x1:=(oz HX).cell 1;have x2:=(oz HX).cell 2;go_wp2_with fail
 generalize ((W.alloc _).alloc _).alloc _=w0 at *;refine (oz HC).mono ?_;rintro e w1 ⟨u,rfl,hu,hb⟩;obtain ⟨a2,c2,rfl⟩:=zL hu;have hsz:=hb.size;have HT1:=kz ((oz HT).below hb (by omega));have HR1:=kz ((oz HR).below hb (by omega));have HB1:=kz ((oz HB).trans (hb.mono (by omega)));have HU:=kz hu;clear hb HT HR HB HC x0 x1 x2 HX hu;generalize bdX T (r,bad)=bs at *;cases hfr:yP T (r,bad) with
 | true =>
  rw [hfr] at HE;have he:tx=(l,bd):=oz HE;subst he;have t0:=(oz HT1).cell 0;have t1:=(oz HT1).cell 1;have r0:=(oz HR1).cell 0;have r1:=(oz HR1).cell 1;have rf:=(oz HR1).frozen;clear hfr HE;go_wp2_with fail
  have q:=((oz HR1).set 0 (.slice a l.length c)).set 1 (.bool bd);have c0:=q.cell 0;have c1:=q.cell 1;have hbf:=((oz HB1).setCell (p:=⟨W.heap.size+1+1,0,none⟩) (by simp;omega) (.slice a l.length c)).setCell (p:=⟨W.heap.size+1+1,1,none⟩) (by simp;omega) (.bool bd);refine XS (v := .agg #[.slice a l.length c,.bool bd]) (by simp [results,Tryz.f42,go_sem,c0,c1]) rfl ⟨_,rfl,zu (oz HO) hbf,hbf,fun g hg =>.inl hg⟩
 | false =>
  rw [hfr] at HE;have he:tx=(Qs l bs,true):=oz HE;subst he;have t0:=(oz HT1).cell 0;have HBC:=kz (zic a a2 c c2 l bs hl (by omega) (oz HRS) (oz HV) w1 (yY (zu (oz HO) (oz HB1))) (yY (oz HU)));clear hfr HE HRS HV;go_wp2_with fail
  refine (oz HBC).mono ?_;rintro e w2 ⟨v',rfl,hv',hb⟩;obtain ⟨a3,c3,rfl⟩:=zL hv';have hsz2:=hb.size;have HR2:=kz ((oz HR1).below hb (by omega));have HB2:=kz ((oz HB1).trans (hb.mono (by omega)));have HV2:=kz hv';have r0:=(oz HR2).cell 0;have r1:=(oz HR2).cell 1;have rf:=(oz HR2).frozen;clear hb hv' HBC HR1 HB1 HT1 t0 HU HO;go_wp2_with fail
  have q:=((oz HR2).set 0 (.slice a3 (Qs l bs).length c3)).set 1 (.bool true);have c0:=q.cell 0;have c1:=q.cell 1;have hbf:=((oz HB2).setCell (p:=⟨W.heap.size+1+1,0,none⟩) (by simp;omega) (.slice a3 (Qs l bs).length c3)).setCell (p:=⟨W.heap.size+1+1,1,none⟩) (by simp;omega) (.bool true);refine XS (v := .agg #[(.slice a3 (Qs l bs).length c3),.bool true]) (by simp [results,Tryz.f42,go_sem,c0,c1]) rfl ⟨_,rfl, ?_,hbf,fun g hg =>.inr ?_⟩
  ·exact yH (zaF (zaF (oz HV2) (by omega) _) (by omega) _) (by omega)
  ·have:=((oz HV2).lt g hg).1;omega
theorem zfX (v:Value) (l:List Nat) (bd:Bool) (W:World) (lo:Nat) (ho:W.ownsRow lo 3 1 v l.length (l.map qA)) (hl:l.length≤900000) :
  Calls Tryz.prog 50 #[.agg #[v,.bool bd]] W fun e w' =>e=.returned (.bool (YM (l,bd)))∧Below W.heap.size W w':=by
 obtain ⟨a,c,rfl⟩:=zL ho;have hb0:=kz ((Below.refl W.heap.size W).alloc zD (.cells #[.slice a l.length c,.bool bd] 104));have x0:=(Blk.new W #[.slice a l.length c,.bool bd] 104).cell 0;have x1:=(Blk.new W #[.slice a l.length c,.bool bd] 104).cell 1;clear ho;cases bd with
 | false =>
  go_enter Tryz.func50,Tryz.ntmps50;go_wp2;go_ret;exact ⟨rfl,oz hb0⟩
 | true =>
  by_cases h0:l.length=0
  ·have HF:=kz (show YM (l,true)=true by rw [List.length_eq_zero_iff.1 h0];rfl);have e1:((l.length:Int) == 0)=true:=by simp [h0]
   clear h0;go_enter Tryz.func50,Tryz.ntmps50;go_wp2;go_ret;exact ⟨by rw [oz HF];rfl,oz hb0⟩
  ·have HF:=kz (show YM (l,true)=false by
    cases l with
    | nil =>exact absurd rfl h0
    | cons n l =>rfl)
   have e1:((l.length:Int) == 0)=false:=by simp;intro e;exact h0 (by rw [e];rfl)
   clear h0;go_enter Tryz.func50,Tryz.ntmps50;go_wp2;go_ret;exact ⟨by rw [oz HF];rfl,oz hb0⟩
end
section
open Go.RowKit Go.Shelf Go.ChangeShapes
end
section
open Go.RowKit Go.Shelf
set_option maxRecDepth 100000
set_option maxHeartbeats 8000000
def zkA (W:World) (a:Option Addr) (zs:List Int):Prop:=0 < zs.length→∃ g o,a=some ⟨g,o,none⟩∧g < W.heap.size∧∀ j,j < zs.length→W.cell? ⟨g,o+j,none⟩=some (.int .i64 (zs.getD j 0))
theorem zfI (a b:Option Addr) (ca cb:Nat) (zs:List Int) (hz:zs.length≤9223372036854775807) (w:World) (ha:zkA w a zs) (hb:zkA w b zs) :
  Calls Tryz.prog 11 #[.slice a zs.length ca,.slice b zs.length cb] w fun e w' =>e=.returned (.bool true)∧Below w.heap.size w w':=by
 have HA:=kz ha;have HB:=kz hb;clear ha hb;have hne:(((zs.length:Nat):Int) != ((zs.length:Nat):Int))=false:=by simp
 go_enter Tryz.func11,Tryz.ntmps11;go_wp2;go_loopw [5] (fun i wr => ∃ k:Nat,k≤zs.length∧i=.int .i64 k∧∃ q,wr=w.drewN q) (fun i _ =>zs.length - (intOf i).toNat)
 case atStart =>exact ⟨0,by omega,rfl,0,rfl⟩
 case round =>
  obtain ⟨k,hk,rfl,q,rfl⟩:=hrel;by_cases hkn:k < zs.length
  ·obtain ⟨g,o,rfl,_,hc⟩:=oz HA (by omega);obtain ⟨h,p,rfl,_,hd⟩:=oz HB (by omega);have c0:=hc k hkn;have c1:=hd k hkn;have hk1:(k:Int) < (zs.length:Int):=by omega
   have hk2:=Zp k
   generalize zs.getD k 0=z at c0 c1;have hzz:(z != z)=false:=by simp
   clear hc hd;go_wp2
   go_quiet (fail)
   go_wp2
   go_roundw
   case rel =>exact ⟨k+1,by omega,by go_num,_,rfl⟩
   case measure =>simp [intOf];omega
  ·have hk1:¬ (k:Int) < (zs.length:Int):=by omega
   go_wp2;go_ret;exact ⟨rfl,yX zl _⟩
end
section
open Go.RowKit Go.Shelf Go.Maps
set_option maxRecDepth 100000
set_option maxHeartbeats 8000000
def inI (l:List Nat) (n:Int):Bool:=l.any (fun x =>(x:Int) == n)
theorem za9 {W:World} {a:Option Addr} {l:List Nat} (h:RowC W W.heap.size a (l.map qA)):zkA W a (l.map (fun n:Nat =>(n:Int))):=fun h0 =>by
 rw [List.length_map] at h0;obtain ⟨g,o,e,hg,hc⟩:=h (by rw [List.length_map];exact h0);refine ⟨g,o,e,hg,fun j hj =>?_⟩;rw [List.length_map] at hj;rw [hc j (qA l[j]) (by rw [List.getElem?_map,qR hj];rfl)];rw [List.getD,List.getElem?_map,qR hj];rfl
theorem zf7 (a:Option Addr) (c:Nat) (l:List Nat) (hl:l.length≤900000) (n:Int) (W:World) (h:RowC W W.heap.size a (l.map qA)) :
  Calls Tryz.prog 79 #[.slice a l.length c,.int .i64 n] W fun e w' => ∃ k:Int,e=.returned (.int .i64 k)∧decide (k ≥ 0)=inI l n∧w'=W:=by
 have H:=kz h;clear h;go_enter Tryz.func79,Tryz.ntmps79;go_wp2_with fail
 go_loopw [5,8] (fun _ s8 wr => ∃ k:Nat,k≤l.length∧s8=.int .i64 k∧Hz (∀ j x,j < k→l[j]?=some x→(x:Int)≠n)∧wr=W) (fun _ s8 _ =>l.length - (intOf s8).toNat)
 case atStart =>exact ⟨0,Zn _,rfl,kz (fun j x hj =>by omega),rfl⟩
 case round =>
  obtain ⟨k,hk,rfl,HN,rfl⟩:=hrel;by_cases hkn:k < l.length
  ·obtain ⟨x,hx⟩:∃ x,l[k]?=some x:=⟨_,qR hkn⟩;obtain ⟨g,q,rfl,hg,hc⟩:=(oz H) (by rw [List.length_map];omega);have kc:wr.cell? ⟨g,q+k,none⟩=some (.int .i64 x):=hc k _ (by rw [List.getElem?_map,hx];rfl);have hk1:(k:Int) < (l.length:Int):=by omega
   have hk2:=Zp k
   have HX:=kz hx;clear hx hc;by_cases he:n=(x:Int)
   ·subst he;have hxx:((x:Int) == (x:Int))=true:=by simp
    have HF:Hz (decide ((k:Int) ≥ 0)=inI l (x:Int)):=kz (by
     rw [JS (by omega)];unfold inI
     symm
     rw [List.any_eq_true];exact ⟨x,YH (oz HX),by simp⟩)
    go_wp2_with fail
    go_ret;exact ⟨_,rfl,oz HF,rfl⟩
   ·have hxx:(n == (x:Int))=false:=by simpa using he
    have HN2:Hz (∀ j y,j < k+1→l[j]?=some y→(y:Int)≠n):=kz (fun j y hj hy =>by
     by_cases e:j=k
     ·subst e;rw [oz HX] at hy;cases hy
      exact fun e2 =>he e2.symm
     ·exact oz HN j y (by omega) hy)
    clear he;go_wp2_with fail
    exact ⟨⟨k+1,by omega,by go_num,HN2,by first | rfl | trivial⟩,by simp [intOf];omega⟩
  ·have hk1:¬ (k:Int) < (l.length:Int):=by omega
   obtain rfl:k=l.length:=by omega
   have HF:Hz (decide ((-1:Int) ≥ 0)=inI l n):=kz (by
    rw [Zq (by omega)]
    symm
    unfold inI;rw [List.any_eq_false];intro x hx;obtain ⟨j,hj,rfl⟩:=List.getElem_of_mem hx;have:=oz HN j _ hj (qR hj);simpa using this)
   go_wp2_with fail
   go_ret;exact ⟨_,rfl,oz HF,rfl⟩
theorem zbH (a:Option Addr) (c:Nat) (l:List Nat) (hl:l.length≤900000) (n:Int) (W:World) (h:RowC W W.heap.size a (l.map qA)) :
  Calls Tryz.prog 53 #[.slice a l.length c,.int .i64 n] W fun e w' =>e=.returned (.bool (inI l n))∧w'=W:=by
 have HC:=kz (zf7 a c l hl n W h);clear h;go_enter Tryz.func53,Tryz.ntmps53;go_wp2_with fail
 refine (oz HC).mono ?_;rintro e w1 ⟨k,rfl,hk,rfl⟩;have HK:=kz hk;clear hk HC;go_wp2_with fail
 go_ret;exact ⟨by rw [← oz HK];rfl,rfl⟩
theorem zfH (a b:Option Addr) (ca cb:Nat) (l:List Nat) (hl:l.length≤900000) (w:World) (ha:RowC w w.heap.size a (l.map qA)) (hb:RowC w w.heap.size b (l.map qA)) :
  Calls Tryz.prog 11 #[.slice a l.length ca,.slice b l.length cb] w fun e w' =>e=.returned (.bool true)∧Below w.heap.size w w':=by
 have:=zfI a b ca cb (l.map (fun n:Nat =>(n:Int))) (by rw [List.length_map];omega) w (za9 ha) (za9 hb)
 rwa [List.length_map] at this
end
end Go.Proofs.YthchopdfmchpkaaGreat
