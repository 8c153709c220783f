/- The reference's word, part C. -/
import Derived.Test.YtmdgejgokoadlaaGreatDoorM27
namespace Go.Proofs.YtmdgejgokoadlaaGreatDoor
open Go.RowKit Go.Shelf
set_option linter.unusedVariables false
theorem zdB (s:ByteArray) (a n:Nat) (h:a+n≤s.size):za9 (rst s a) n=(decide (a+n=s.size) || !zdN (bt s (a+n))):=by
 unfold za9
 rw [zah,zaK s a n (by omega)]
 congr 1
 exact decide_eq_decide.2 (by omega)
theorem word_u_v (s:ByteArray) (a:Nat) (ha:a < s.size) (hc:bt s a=85):∃ V N o,zjq s a=(V,N,o)∧1≤N∧a+N≤s.size∧(o=false→V=0∧(zac (rst s a)).n=N∧(zac (rst s a)).ok=false)∧(o=true→zac (rst s a)=⟨3,ByteArray.empty,V,0,N,decide (a+N=s.size) || !zdN (bt s (a+N))⟩∧zdN (bt s (a+N - 1))=true):=by
 have hb0:bt (rst s a) 0=bt s a:=zaK s a 0 (by omega)
 have hz:=zah s a
 have hv0:zac (rst s a)=⟨3,ByteArray.empty,(zax (rst s a)).1,0,(zax (rst s a)).2.1,(zax (rst s a)).2.2 && za9 (rst s a) (zax (rst s a)).2.1⟩:=by
  unfold zac
  rw [hb0,hc,if_neg (by decide),if_neg (by decide),if_pos rfl]
 have hle:=zkh (rst s a) (by omega)
 have hed:za9 (rst s a) (zax (rst s a)).2.1=(decide (a+(zax (rst s a)).2.1=s.size) || !zdN (bt s (a+(zax (rst s a)).2.1))):=by
  exact zdB s a _ (by omega)
 have hpr:(zax (rst s a)).2.2=true→hxB (bt s (a+(zax (rst s a)).2.1 - 1))=true:=fun h =>by
  have h6:(zax (rst s a)).2.1=(zaO (rst s a) 0 2).2∧6≤(zaO (rst s a) 0 2).2:=by
   unfold zax at h ⊢
   split at h
   ·cases h
   ·rename_i q1
    rw [if_neg q1]
    split at h
    ·cases h
    ·rename_i q
     rw [if_neg q]
     exact ⟨rfl,by omega⟩
  have:=zeq (rst s a) (rst s a).size 0 2 (by omega) (by omega) (fun q =>by omega) (by omega)
  rw [← h6.1,zaK s a _ (by omega), ← Nat.add_sub_assoc (by omega)] at this
  exact this
 rw [hv0]
 unfold zjq
 generalize zax (rst s a)=x at *
 obtain ⟨V,N,o⟩:=x
 simp only [] at hle hed hpr ⊢
 by_cases q:(o && zeL s (a+N))=true
 ·rw [if_pos q]
  have q2:=(Bool.and_eq_true _ _).mp q
  refine ⟨V,N,true,rfl,hle.1,by omega,(fun h =>by cases h),fun _ =>⟨?_,zhl (hpr q2.1)⟩⟩
  rw [q2.1,Bool.true_and,hed]
 ·rw [if_neg q]
  refine ⟨0,N,false,rfl,hle.1,by omega,fun _ =>⟨rfl,rfl, ?_⟩,(fun h =>by cases h)⟩
  cases o with
  | false =>rfl
  | true =>
   rw [Bool.true_and] at q ⊢
   have hnh:zeL s (a+N)=false:=Bool.eq_false_iff.2 q
   unfold zeL at hnh
   simp at hnh
   rw [hed,decide_eq_false (by omega),zhl hnh.2]
   rfl
set_option maxRecDepth 100000 in
set_option maxHeartbeats 8000000 in
theorem word_u (s:ByteArray) (hs:s.size≤1099511627776) (a:Nat) (ha:a < s.size) (hc:bt s a=85) (w:World):Calls Tryz.prog 81 #[.string s,.int .i64 a] w fun e w' => ∃ V,e=.returned (.tuple #[V,.int .i64 ((a+(zac (rst s a)).n:Nat):Int),.bool (zac (rst s a)).ok])∧((zac (rst s a)).ok=true→V=zcs (zac (rst s a)) a)∧IsW V∧Below w.heap.size w w':=by
 obtain ⟨V,N,o,hp,hn1,hn2,hno,hok⟩:=word_u_v s a ha hc
 have hnr:=plus_ref s hs a ha
 rw [hp] at hnr
 have hpl:a+N - 1 < s.size:=by omega
 have hcl:=zaX s (a+N - 1)
 have hgp:=zaz s (a+N - 1) hpl
 obtain ⟨d,ed⟩:∃ d,(s[a+N - 1]'hpl).toNat=d:=⟨_,rfl⟩
 rw [hgp,ed] at hcl
 have hei:(a:Int)+(N:Int) - 1=((a+N - 1:Nat):Int):=by omega
 have hel:((a+N - 1:Nat):Int) < (s.size:Int):=by omega
 have hen:(a:Int)+(N:Int)≤(s.size:Int):=by omega
 have hl:(a:Int) < (s.size:Int):=by omega
 have hgb':(s[a]'ha).toNat=85:=(zaz s a ha).symm.trans hc
 have HN:=kz hnr
 clear hnr hp hc
 cases o
 ·obtain ⟨rfl,h2,h3⟩:=hno rfl
  rw [h2,h3]
  clear hno hok h2 h3 hgp
  go_enter Tryz.func81,Tryz.ntmps81
  go_wp2_with fail
  have hst0:=zbq w a
  generalize (w.alloc (.cells (wz (.int .i64 0)) 123)).alloc (.cells (wz (.int .i64 a)) 123)=W0 at *
  have HST:=kz hst0
  clear hst0
  refine (zba 85 85 rfl (by decide) false (by decide) _).mono ?_
  rintro e w1 ⟨rfl,rfl⟩
  go_wp2_with fail
  refine (zbn 85 85 rfl (by decide) false (by decide) _).mono ?_
  rintro e w1 ⟨rfl,rfl⟩
  have hcu:=(oz HST).cur
  have k0:=hcu.cell 0
  have f0:=hcu.frozen 0
  have f2:=(hcu.set 0 (.int .i64 3)).frozen 2
  have k2:=(hcu.set 0 (.int .i64 3)).cell 2
  clear hcu
  go_wp2_with fail
  refine (oz HN _).mono ?_
  rintro e w1 ⟨rfl,rfl⟩
  have h2:=(((oz HST).set 0 (.int .i64 3)).set 2 (.int .i32 0))
  have r0:=h2.res.cell 0
  have r1:=h2.res.cell 1
  have r2:=h2.res.cell 2
  have r3:=h2.res.cell 3
  have r4:=h2.res.cell 4
  have r5:=h2.res.cell 5
  have rf0:=h2.res.frozen 0
  have rf1:=h2.res.frozen 1
  have rf2:=h2.res.frozen 2
  have rf3:=h2.res.frozen 3
  have rf4:=h2.res.frozen 4
  have rf5:=h2.res.frozen 5
  have hfin:=h2.fin (.int .i64 0) (.string ⟨#[]⟩) (.int .i32 0) (.int .i64 0) (.int .i64 0) (.int .i64 0)
  have HFIN:=kz hfin
  clear hfin h2
  go_wp2_with fail
  have hfin:=oz HFIN
  have e0:=hfin.1.cell 0
  have e1:=hfin.1.cell 1
  have e2:=hfin.1.cell 2
  have e3:=hfin.1.cell 3
  have e4:=hfin.1.cell 4
  have e5:=hfin.1.cell 5
  have HB:=kz hfin.2
  exact bodyPost_ret (v := .tuple #[.agg (wz (.int .i64 0)),.int .i64 ((a:Int)+(N:Int)),.bool false]) (by simp [results,Tryz.results81,go_sem,e0,e1,e2,e3,e4,e5]) rfl ⟨_,rfl,(fun q =>by cases q),⟨_,_,_,_,_,_,rfl⟩,oz HB⟩
 ·obtain ⟨hv,hst⟩:=hok rfl
  rw [hgp,ed] at hst
  have hcr:=zb8 d hcl
  rw [hst] at hcr
  have HCL:=kz hcr
  rw [hv]
  clear hno hok hgp hst hcr hv
  show Calls Tryz.prog 81 #[.string s,.int .i64 a] w fun e w' => ∃ X,e=.returned (.tuple #[X,.int .i64 ((a+N:Nat):Int),.bool (decide (a+N=s.size) || !zdN (bt s (a+N)))])∧((decide (a+N=s.size) || !zdN (bt s (a+N)))=true→X=zcs ⟨3,ByteArray.empty,V,0,N,decide (a+N=s.size) || !zdN (bt s (a+N))⟩ a)∧IsW X∧Below w.heap.size w w'
  by_cases hend:a+N < s.size
  ·have hend':(a:Int)+(N:Int) < (s.size:Int):=by omega
   have hge:=zaz s (a+N) hend
   have hxl:=zaX s (a+N)
   obtain ⟨x,ex⟩:∃ x,(s[a+N]'hend).toNat=x:=⟨_,rfl⟩
   rw [hge,ex] at hxl ⊢
   rw [decide_eq_false (by omega),Bool.false_or]
   have hcx:=zb8 x hxl
   cases hsx:zdN x
   ·rw [hsx] at hcx
    have HX:=kz hcx
    clear hcx hge hsx
    go_enter Tryz.func81,Tryz.ntmps81
    go_wp2_with fail
    have hst0:=zbq w a
    generalize (w.alloc (.cells (wz (.int .i64 0)) 123)).alloc (.cells (wz (.int .i64 a)) 123)=W0 at *
    have HST:=kz hst0
    clear hst0
    refine (zba 85 85 rfl (by decide) false (by decide) _).mono ?_
    rintro e w1 ⟨rfl,rfl⟩
    go_wp2_with fail
    refine (zbn 85 85 rfl (by decide) false (by decide) _).mono ?_
    rintro e w1 ⟨rfl,rfl⟩
    have hcu:=(oz HST).cur
    have k0:=hcu.cell 0
    have f0:=hcu.frozen 0
    have f2:=(hcu.set 0 (.int .i64 3)).frozen 2
    have k2:=(hcu.set 0 (.int .i64 3)).cell 2
    clear hcu
    go_wp2_with fail
    refine (oz HN _).mono ?_
    rintro e w1 ⟨rfl,rfl⟩
    go_wp2_with fail
    refine (oz HCL _).mono ?_
    rintro e w1 ⟨rfl,rfl⟩
    go_wp2_with fail
    refine (oz HX _).mono ?_
    rintro e w1 ⟨rfl,rfl⟩
    have h2:=(((oz HST).set 0 (.int .i64 3)).set 2 (.int .i32 V))
    have r0:=h2.res.cell 0
    have r1:=h2.res.cell 1
    have r2:=h2.res.cell 2
    have r3:=h2.res.cell 3
    have r4:=h2.res.cell 4
    have r5:=h2.res.cell 5
    have rf0:=h2.res.frozen 0
    have rf1:=h2.res.frozen 1
    have rf2:=h2.res.frozen 2
    have rf3:=h2.res.frozen 3
    have rf4:=h2.res.frozen 4
    have rf5:=h2.res.frozen 5
    have c5:=h2.cur.cell 5
    have cf5:=h2.cur.frozen 5
    have h3:=h2.set 5 (.int .i64 ((a:Int)+(N:Int)))
    have g0:=h3.cur.cell 0
    have g1:=h3.cur.cell 1
    have g2:=h3.cur.cell 2
    have g3:=h3.cur.cell 3
    have g4:=h3.cur.cell 4
    have g5:=h3.cur.cell 5
    have hfin:=h3.fin (.int .i64 3) (.string (⟨#[]⟩:ByteArray)) (.int .i32 V) (.int .i64 0) (.int .i64 a) (.int .i64 ((a:Int)+(N:Int)))
    have HFIN:=kz hfin
    clear hfin h2 h3
    go_wp2_with fail
    have hfin:=oz HFIN
    have e0:=hfin.1.cell 0
    have e1:=hfin.1.cell 1
    have e2:=hfin.1.cell 2
    have e3:=hfin.1.cell 3
    have e4:=hfin.1.cell 4
    have e5:=hfin.1.cell 5
    have HB:=kz hfin.2
    exact bodyPost_ret (v := .tuple #[zcs ⟨3,ByteArray.empty,V,0,N,true⟩ a,.int .i64 ((a:Int)+(N:Int)),.bool true]) (by simp [results,Tryz.results81,go_sem,e0,e1,e2,e3,e4,e5];first | rfl | exact ⟨rfl,by omega⟩) rfl ⟨_,rfl,by first | exact fun _ =>rfl | rfl,⟨_,_,_,_,_,_,rfl⟩,oz HB⟩
   ·rw [hsx] at hcx
    have HX:=kz hcx
    clear hcx hge hsx
    go_enter Tryz.func81,Tryz.ntmps81
    go_wp2_with fail
    have hst0:=zbq w a
    generalize (w.alloc (.cells (wz (.int .i64 0)) 123)).alloc (.cells (wz (.int .i64 a)) 123)=W0 at *
    have HST:=kz hst0
    clear hst0
    refine (zba 85 85 rfl (by decide) false (by decide) _).mono ?_
    rintro e w1 ⟨rfl,rfl⟩
    go_wp2_with fail
    refine (zbn 85 85 rfl (by decide) false (by decide) _).mono ?_
    rintro e w1 ⟨rfl,rfl⟩
    have hcu:=(oz HST).cur
    have k0:=hcu.cell 0
    have f0:=hcu.frozen 0
    have f2:=(hcu.set 0 (.int .i64 3)).frozen 2
    have k2:=(hcu.set 0 (.int .i64 3)).cell 2
    clear hcu
    go_wp2_with fail
    refine (oz HN _).mono ?_
    rintro e w1 ⟨rfl,rfl⟩
    go_wp2_with fail
    refine (oz HCL _).mono ?_
    rintro e w1 ⟨rfl,rfl⟩
    go_wp2_with fail
    refine (oz HX _).mono ?_
    rintro e w1 ⟨rfl,rfl⟩
    have h2:=(((oz HST).set 0 (.int .i64 3)).set 2 (.int .i32 V))
    have r0:=h2.res.cell 0
    have r1:=h2.res.cell 1
    have r2:=h2.res.cell 2
    have r3:=h2.res.cell 3
    have r4:=h2.res.cell 4
    have r5:=h2.res.cell 5
    have rf0:=h2.res.frozen 0
    have rf1:=h2.res.frozen 1
    have rf2:=h2.res.frozen 2
    have rf3:=h2.res.frozen 3
    have rf4:=h2.res.frozen 4
    have rf5:=h2.res.frozen 5
    have hfin:=h2.fin (.int .i64 0) (.string ⟨#[]⟩) (.int .i32 0) (.int .i64 0) (.int .i64 0) (.int .i64 0)
    have HFIN:=kz hfin
    clear hfin h2
    go_wp2_with fail
    have hfin:=oz HFIN
    have e0:=hfin.1.cell 0
    have e1:=hfin.1.cell 1
    have e2:=hfin.1.cell 2
    have e3:=hfin.1.cell 3
    have e4:=hfin.1.cell 4
    have e5:=hfin.1.cell 5
    have HB:=kz hfin.2
    exact bodyPost_ret (v := .tuple #[.agg (wz (.int .i64 0)),.int .i64 ((a:Int)+(N:Int)),.bool false]) (by simp [results,Tryz.results81,go_sem,e0,e1,e2,e3,e4,e5]) rfl ⟨_,rfl,(fun q =>by cases q),⟨_,_,_,_,_,_,rfl⟩,oz HB⟩
  ·have hend':¬ (a:Int)+(N:Int) < (s.size:Int):=by omega
   rw [decide_eq_true (show a+N=s.size by omega),Bool.true_or]
   go_enter Tryz.func81,Tryz.ntmps81
   go_wp2_with fail
   have hst0:=zbq w a
   generalize (w.alloc (.cells (wz (.int .i64 0)) 123)).alloc (.cells (wz (.int .i64 a)) 123)=W0 at *
   have HST:=kz hst0
   clear hst0
   refine (zba 85 85 rfl (by decide) false (by decide) _).mono ?_
   rintro e w1 ⟨rfl,rfl⟩
   go_wp2_with fail
   refine (zbn 85 85 rfl (by decide) false (by decide) _).mono ?_
   rintro e w1 ⟨rfl,rfl⟩
   have hcu:=(oz HST).cur
   have k0:=hcu.cell 0
   have f0:=hcu.frozen 0
   have f2:=(hcu.set 0 (.int .i64 3)).frozen 2
   have k2:=(hcu.set 0 (.int .i64 3)).cell 2
   clear hcu
   go_wp2_with fail
   refine (oz HN _).mono ?_
   rintro e w1 ⟨rfl,rfl⟩
   go_wp2_with fail
   refine (oz HCL _).mono ?_
   rintro e w1 ⟨rfl,rfl⟩
   have h2:=(((oz HST).set 0 (.int .i64 3)).set 2 (.int .i32 V))
   have r0:=h2.res.cell 0
   have r1:=h2.res.cell 1
   have r2:=h2.res.cell 2
   have r3:=h2.res.cell 3
   have r4:=h2.res.cell 4
   have r5:=h2.res.cell 5
   have rf0:=h2.res.frozen 0
   have rf1:=h2.res.frozen 1
   have rf2:=h2.res.frozen 2
   have rf3:=h2.res.frozen 3
   have rf4:=h2.res.frozen 4
   have rf5:=h2.res.frozen 5
   have c5:=h2.cur.cell 5
   have cf5:=h2.cur.frozen 5
   have h3:=h2.set 5 (.int .i64 ((a:Int)+(N:Int)))
   have g0:=h3.cur.cell 0
   have g1:=h3.cur.cell 1
   have g2:=h3.cur.cell 2
   have g3:=h3.cur.cell 3
   have g4:=h3.cur.cell 4
   have g5:=h3.cur.cell 5
   have hfin:=h3.fin (.int .i64 3) (.string (⟨#[]⟩:ByteArray)) (.int .i32 V) (.int .i64 0) (.int .i64 a) (.int .i64 ((a:Int)+(N:Int)))
   have HFIN:=kz hfin
   clear hfin h2 h3
   go_wp2_with fail
   have hfin:=oz HFIN
   have e0:=hfin.1.cell 0
   have e1:=hfin.1.cell 1
   have e2:=hfin.1.cell 2
   have e3:=hfin.1.cell 3
   have e4:=hfin.1.cell 4
   have e5:=hfin.1.cell 5
   have HB:=kz hfin.2
   exact bodyPost_ret (v := .tuple #[zcs ⟨3,ByteArray.empty,V,0,N,true⟩ a,.int .i64 ((a:Int)+(N:Int)),.bool true]) (by simp [results,Tryz.results81,go_sem,e0,e1,e2,e3,e4,e5];first | rfl | exact ⟨rfl,by omega⟩) rfl ⟨_,rfl,by first | exact fun _ =>rfl | rfl,⟨_,_,_,_,_,_,rfl⟩,oz HB⟩
def NmSt (t:ByteArray) (n k:Nat):Prop:=k=0∨(1≤k∧n=za2 (fun j =>zcd (bt t j)) (min t.size 32) k)
theorem nm_top {t:ByteArray} {n k:Nat} (h:NmSt t n k) (hk:k=32) (hs:32≤t.size):n=32:=by
 rcases h with h | ⟨_,h⟩
 ·omega
 ·rw [h,hk,zaC (by omega)]
theorem nm_end {t:ByteArray} {n k:Nat} (h:NmSt t n k) (h0:k=0→False) (hx:¬ (k < t.size∧zcd (bt t k)=true)):1≤k∧n=k:=by
 rcases h with h | ⟨h1,h⟩
 ·exact (h0 h).elim
 ·refine ⟨h1, ?_⟩
  rw [h]
  by_cases hl:k < min t.size 32
  ·exact zbb (p:=fun j =>zcd (bt t j)) (Bool.eq_false_iff.2 (fun q =>hx ⟨by omega,q⟩))
  ·exact zaC hl
theorem zjy {t:ByteArray} {n k:Nat} (h:NmSt t n k) (hi:n=za2 (fun j =>zcd (bt t j)) (min t.size 32) 1) (hk:k < min t.size 32) (hx:zcd (bt t k)=true):NmSt t n (k+1):=by
 rcases h with h | ⟨h1,h⟩
 ·rw [h];exact .inr ⟨by omega,hi⟩
 ·exact .inr ⟨by omega,by rw [h,zbx (p:=fun j =>zcd (bt t j)) hk hx]⟩
set_option maxRecDepth 100000 in
set_option maxHeartbeats 8000000 in
theorem word_name (s:ByteArray) (hs:s.size≤1099511627776) (a:Nat) (ha:a < s.size) (hsml:zaP (bt s a)=true) (w:World):Calls Tryz.prog 81 #[.string s,.int .i64 a] w fun e w' => ∃ V,e=.returned (.tuple #[V,.int .i64 ((a+(zac (rst s a)).n:Nat):Int),.bool (zac (rst s a)).ok])∧((zac (rst s a)).ok=true→V=zcs (zac (rst s a)) a)∧IsW V∧Below w.heap.size w w':=by
 have hb0:bt (rst s a) 0=bt s a:=zaK s a 0 (by omega)
 have hz:=zah s a
 have hv0:zac (rst s a)=⟨1,(rst s a).extract 0 (zao (rst s a)),0,0,zao (rst s a),za9 (rst s a) (zao (rst s a))⟩:=by
  unfold zac
  rw [hb0,if_pos hsml]
 have hini:zao (rst s a)=za2 (fun n =>zcd (bt (rst s a) n)) (min (rst s a).size 32) 1:=by
  unfold zao
  rw [if_neg (fun q =>q.elim (fun q =>by omega) (fun q =>by rw [hb0,hsml] at q;cases q))]
 have hgb:=zaz s a ha
 have hcb:=zaX s a
 obtain ⟨c,ec⟩:∃ c,(s[a]'ha).toNat=c:=⟨_,rfl⟩
 rw [ec] at hgb
 rw [hgb] at hsml hcb
 have HS0:=kz (zba (c:Int) c rfl hcb true hsml)
 have hl:(a:Int) < (s.size:Int):=by omega
 rw [hv0]
 generalize zao (rst s a)=n at *
 have HINI:=kz hini
 clear hv0 hini hb0 hgb
 go_enter Tryz.func81,Tryz.ntmps81
 go_wp2_with fail
 have hst0:=zbq w a
 generalize (w.alloc (.cells (wz (.int .i64 0)) 123)).alloc (.cells (wz (.int .i64 a)) 123)=W0 at *
 have HST:=kz hst0
 clear hst0
 refine (oz HS0 _).mono ?_
 rintro e w1 ⟨rfl,rfl⟩
 go_wp2_with fail
 go_loop [8] (fun x => ∃ p k:Nat,p≤s.size∧a≤p∧k≤32∧x=.int .i64 p∧Hz (p=a+k)∧Hz (NmSt (rst s a) n k)) (fun x =>s.size - (intOf x).toNat)
 case atStart =>exact ⟨a,0,by omega,by omega,by omega,rfl,kz rfl,kz (.inl rfl)⟩
 case round =>
  obtain ⟨p,k,hp,hap,hk32,rfl,HPK,HNM⟩:=hrel
  have hpk:(p:Int) - (a:Int)=(k:Int):=by have:=oz HPK;omega
  by_cases hps:p < s.size
  ·have hps':(p:Int) < (s.size:Int):=by omega
   have hgx:=zaz s p hps
   have hxl:=zaX s p
   obtain ⟨x,ex⟩:∃ x,(s[p]'hps).toNat=x:=⟨_,rfl⟩
   rw [ex] at hgx
   rw [hgx] at hxl
   have HSM:=kz (zdT x hxl)
   have HDG:=kz (zcq x hxl)
   cases hsm:zaP x
   ·rw [hsm] at HSM
    cases hdg:zcr x
    ·rw [hdg] at HDG
     by_cases h45:x=45
     ·have h45':((x:Int) == 45)=true:=by simp;omega
      have hin:zcd x=true:=by unfold zcd;rw [hsm,hdg,decide_eq_true h45];rfl
      clear h45
      by_cases h32:k=32
      ·have t32:((k:Int) == 32)=true:=by simp;omega
       have hnk:n=32:=nm_top (oz HNM) h32 (by rw [hz];have:=oz HPK;omega)
       have he:za9 (rst s a) n=false:=by rw [zdB s a n (by have:=oz HPK;omega),hnk,decide_eq_false (by have:=oz HPK;omega),show a+32=p by have:=oz HPK;omega,hgx,zdR hin];rfl
       have HEd:=kz he
       have HPN:=kz (show (p:Int)=((a+n:Nat):Int) by have:=oz HPK;omega)
       have h2:=(oz HST)
       have r0:=h2.res.cell 0
       have r1:=h2.res.cell 1
       have r2:=h2.res.cell 2
       have r3:=h2.res.cell 3
       have r4:=h2.res.cell 4
       have r5:=h2.res.cell 5
       have rf0:=h2.res.frozen 0
       have rf1:=h2.res.frozen 1
       have rf2:=h2.res.frozen 2
       have rf3:=h2.res.frozen 3
       have rf4:=h2.res.frozen 4
       have rf5:=h2.res.frozen 5
       have g0:=h2.cur.cell 0
       have g1:=h2.cur.cell 1
       have g2:=h2.cur.cell 2
       have g3:=h2.cur.cell 3
       have g4:=h2.cur.cell 4
       have g5:=h2.cur.cell 5
       have hfin:=h2.fin (.int .i64 0) (.string ⟨#[]⟩) (.int .i32 0) (.int .i64 0) (.int .i64 a) (.int .i64 0)
       have HFIN:=kz hfin
       clear hfin h2 he hnk hgx hin h32 HNM
       go_wp2_with fail
       refine (oz HSM _).mono ?_
       rintro e w1 ⟨rfl,rfl⟩
       go_wp2_with fail
       refine (oz HDG _).mono ?_
       rintro e w1 ⟨rfl,rfl⟩
       go_wp2_with fail
       have hfin:=oz HFIN
       have e0:=hfin.1.cell 0
       have e1:=hfin.1.cell 1
       have e2:=hfin.1.cell 2
       have e3:=hfin.1.cell 3
       have e4:=hfin.1.cell 4
       have e5:=hfin.1.cell 5
       have HB:=kz hfin.2
       exact bodyPost_ret (v := .tuple #[.agg (wz (.int .i64 a)),.int .i64 (p:Int),.bool false]) (by simp [results,Tryz.results81,go_sem,e0,e1,e2,e3,e4,e5]) rfl ⟨_,by rw [oz HEd,oz HPN],(fun q =>by rw [oz HEd] at q;cases q),⟨_,_,_,_,_,_,rfl⟩,oz HB⟩
      ·have t32:((k:Int) == 32)=false:=by simp;omega
       have HN2:=kz (zjy (oz HNM) (oz HINI) (show k < min (rst s a).size 32 by rw [hz];have:=oz HPK;omega) (by rw [zaK s a k (by omega), ← oz HPK,hgx];exact hin))
       have HPK2:Hz (p+1=a+(k+1)):=kz (by have:=oz HPK;omega)
       have HK:=kz (show k+1≤32 by omega)
       clear hgx hin h32 HNM
       go_wp2_with fail
       refine (oz HSM _).mono ?_
       rintro e w1 ⟨rfl,rfl⟩
       go_wp2_with fail
       refine (oz HDG _).mono ?_
       rintro e w1 ⟨rfl,rfl⟩
       go_wp2_with fail
       go_round
       case rel =>exact ⟨p+1,k+1,by omega,by omega,oz HK,by go_num,HPK2,HN2⟩
       case measure =>simp [intOf];omega
     ·have h45':((x:Int) == 45)=false:=by simp;omega
      have hin:zcd x=false:=by unfold zcd;rw [hsm,hdg,decide_eq_false h45];rfl
      have hk1:1≤k∧n=k:=nm_end (oz HNM) (fun e =>by rw [e,Nat.add_zero] at HPK;have q:=oz HPK;rw [q,(zaz s a ha).trans ec] at hgx;rw [← hgx] at hsm;rw [hsml] at hsm;cases hsm) (by rw [hz];intro q;rw [zaK s a k (by omega), ← oz HPK,hgx,hin] at q;cases q.2)
      have hnk:=hk1.2
      have hp1:p - 1 < s.size:=by omega
      have hgd:=zaz s (p - 1) hp1
      have hdl:=zaX s (p - 1)
      have hin1:zcd (bt s (p - 1))=true:=by
       have:=zc2 (rst s a) (min (rst s a).size 32) 1 (by omega) (by omega) (by rw [hz];omega) (by rw [zaK s a 0 (by omega),Nat.add_zero,show bt s a=c from (zaz s a ha).trans ec];unfold zcd;rw [hsml];rfl)
       rw [← oz HINI,zaK s a _ (by omega),show a+(n - 1)=p - 1 by have:=oz HPK;omega] at this
       exact this
      obtain ⟨d,ed⟩:∃ d,(s[p - 1]'hp1).toNat=d:=⟨_,rfl⟩
      rw [ed] at hgd
      rw [hgd] at hdl hin1
      have hcd:=zb8 d hdl
      rw [zdR hin1] at hcd
      have HCL:=kz hcd
      have hei:(p:Int) - 1=((p - 1:Nat):Int):=by have:=oz HPK;omega
      have hel:((p - 1:Nat):Int) < (s.size:Int):=by omega
      have h39:((c:Int) != 39)=true:=by have:=ze4.1 hsml;simp;omega
      have hap':(a:Int)≤(p:Int):=by omega
      have hps2:(p:Int)≤(s.size:Int):=by omega
      have hpn:p=a+n:=by have:=oz HPK;omega
      have hex:(rst s a).extract 0 n=s.extract a p:=by
       unfold rst
       rw [ByteArray.extract_extract,Nat.add_zero,hpn,Nat.min_eq_left (by omega)]
      have HEX:=kz hex
      have HPN:=kz (show (p:Int)=((a+n:Nat):Int) by omega)
      have hcx:=zb8 x hxl
      cases hsx:zdN x
      ·rw [hsx] at hcx
       have HX:=kz hcx
       have HEd:Hz (za9 (rst s a) n=true):=kz (by rw [zdB s a n (by omega),decide_eq_false (by omega), ← hpn,hgx,hsx];rfl)
       clear hk1 hnk hgd hin1 hcd hpn hex hsml HNM hcx hgx hin hsx hsm hdg
       go_wp2_with fail
       refine (oz HSM _).mono ?_
       rintro e w1 ⟨rfl,rfl⟩
       go_wp2_with fail
       refine (oz HDG _).mono ?_
       rintro e w1 ⟨rfl,rfl⟩
       have hcu:=(oz HST).cur
       have k0:=hcu.cell 0
       have f0:=hcu.frozen 0
       have f1:=(hcu.set 0 (.int .i64 1)).frozen 1
       have k1:=(hcu.set 0 (.int .i64 1)).cell 1
       clear hcu
       go_wp2_with fail
       refine (oz HCL _).mono ?_
       rintro e w1 ⟨rfl,rfl⟩
       go_wp2_with fail
       refine (oz HX _).mono ?_
       rintro e w1 ⟨rfl,rfl⟩
       have h2:=(((oz HST).set 0 (.int .i64 1)).set 1 (.string (s.extract a p)))
       have r0:=h2.res.cell 0
       have r1:=h2.res.cell 1
       have r2:=h2.res.cell 2
       have r3:=h2.res.cell 3
       have r4:=h2.res.cell 4
       have r5:=h2.res.cell 5
       have rf0:=h2.res.frozen 0
       have rf1:=h2.res.frozen 1
       have rf2:=h2.res.frozen 2
       have rf3:=h2.res.frozen 3
       have rf4:=h2.res.frozen 4
       have rf5:=h2.res.frozen 5
       have c5:=h2.cur.cell 5
       have cf5:=h2.cur.frozen 5
       have h3:=h2.set 5 (.int .i64 (p:Int))
       have g0:=h3.cur.cell 0
       have g1:=h3.cur.cell 1
       have g2:=h3.cur.cell 2
       have g3:=h3.cur.cell 3
       have g4:=h3.cur.cell 4
       have g5:=h3.cur.cell 5
       have hfin:=h3.fin (.int .i64 1) (.string (s.extract a p)) (.int .i32 0) (.int .i64 0) (.int .i64 a) (.int .i64 (p:Int))
       have HFIN:=kz hfin
       clear hfin h2 h3
       go_wp2_with fail
       have hfin:=oz HFIN
       have e0:=hfin.1.cell 0
       have e1:=hfin.1.cell 1
       have e2:=hfin.1.cell 2
       have e3:=hfin.1.cell 3
       have e4:=hfin.1.cell 4
       have e5:=hfin.1.cell 5
       have HB:=kz hfin.2
       exact bodyPost_ret (v := .tuple #[.agg #[.int .i64 1,.string (s.extract a p),.int .i32 0,.int .i64 0,.int .i64 a,.int .i64 (p:Int)],.int .i64 (p:Int),.bool true]) (by simp [results,Tryz.results81,go_sem,e0,e1,e2,e3,e4,e5]) rfl ⟨_,by rw [oz HEd,oz HPN],fun _ =>by rw [← oz HEX];rfl,⟨_,_,_,_,_,_,rfl⟩,oz HB⟩
      ·rw [hsx] at hcx
       have HX:=kz hcx
       have HEd:Hz (za9 (rst s a) n=false):=kz (by rw [zdB s a n (by omega),decide_eq_false (by omega), ← hpn,hgx,hsx];rfl)
       clear hk1 hnk hgd hin1 hcd hpn hex hsml HNM hcx hgx hin hsx hsm hdg
       go_wp2_with fail
       refine (oz HSM _).mono ?_
       rintro e w1 ⟨rfl,rfl⟩
       go_wp2_with fail
       refine (oz HDG _).mono ?_
       rintro e w1 ⟨rfl,rfl⟩
       have hcu:=(oz HST).cur
       have k0:=hcu.cell 0
       have f0:=hcu.frozen 0
       have f1:=(hcu.set 0 (.int .i64 1)).frozen 1
       have k1:=(hcu.set 0 (.int .i64 1)).cell 1
       clear hcu
       go_wp2_with fail
       refine (oz HCL _).mono ?_
       rintro e w1 ⟨rfl,rfl⟩
       go_wp2_with fail
       refine (oz HX _).mono ?_
       rintro e w1 ⟨rfl,rfl⟩
       have h2:=(((oz HST).set 0 (.int .i64 1)).set 1 (.string (s.extract a p)))
       have r0:=h2.res.cell 0
       have r1:=h2.res.cell 1
       have r2:=h2.res.cell 2
       have r3:=h2.res.cell 3
       have r4:=h2.res.cell 4
       have r5:=h2.res.cell 5
       have rf0:=h2.res.frozen 0
       have rf1:=h2.res.frozen 1
       have rf2:=h2.res.frozen 2
       have rf3:=h2.res.frozen 3
       have rf4:=h2.res.frozen 4
       have rf5:=h2.res.frozen 5
       have hfin:=h2.fin (.int .i64 0) (.string ⟨#[]⟩) (.int .i32 0) (.int .i64 0) (.int .i64 0) (.int .i64 0)
       have HFIN:=kz hfin
       clear hfin h2
       go_wp2_with fail
       have hfin:=oz HFIN
       have e0:=hfin.1.cell 0
       have e1:=hfin.1.cell 1
       have e2:=hfin.1.cell 2
       have e3:=hfin.1.cell 3
       have e4:=hfin.1.cell 4
       have e5:=hfin.1.cell 5
       have HB:=kz hfin.2
       exact bodyPost_ret (v := .tuple #[.agg (wz (.int .i64 0)),.int .i64 (p:Int),.bool false]) (by simp [results,Tryz.results81,go_sem,e0,e1,e2,e3,e4,e5]) rfl ⟨_,by rw [oz HEd,oz HPN],(fun q =>by rw [oz HEd] at q;cases q),⟨_,_,_,_,_,_,rfl⟩,oz HB⟩
    ·rw [hdg] at HDG
     have hin:zcd x=true:=by unfold zcd;rw [hsm,hdg];rfl
     by_cases h32:k=32
     ·have t32:((k:Int) == 32)=true:=by simp;omega
      have hnk:n=32:=nm_top (oz HNM) h32 (by rw [hz];have:=oz HPK;omega)
      have he:za9 (rst s a) n=false:=by rw [zdB s a n (by have:=oz HPK;omega),hnk,decide_eq_false (by have:=oz HPK;omega),show a+32=p by have:=oz HPK;omega,hgx,zdR hin];rfl
      have HEd:=kz he
      have HPN:=kz (show (p:Int)=((a+n:Nat):Int) by have:=oz HPK;omega)
      have h2:=(oz HST)
      have r0:=h2.res.cell 0
      have r1:=h2.res.cell 1
      have r2:=h2.res.cell 2
      have r3:=h2.res.cell 3
      have r4:=h2.res.cell 4
      have r5:=h2.res.cell 5
      have rf0:=h2.res.frozen 0
      have rf1:=h2.res.frozen 1
      have rf2:=h2.res.frozen 2
      have rf3:=h2.res.frozen 3
      have rf4:=h2.res.frozen 4
      have rf5:=h2.res.frozen 5
      have g0:=h2.cur.cell 0
      have g1:=h2.cur.cell 1
      have g2:=h2.cur.cell 2
      have g3:=h2.cur.cell 3
      have g4:=h2.cur.cell 4
      have g5:=h2.cur.cell 5
      have hfin:=h2.fin (.int .i64 0) (.string ⟨#[]⟩) (.int .i32 0) (.int .i64 0) (.int .i64 a) (.int .i64 0)
      have HFIN:=kz hfin
      clear hfin h2 he hnk hgx hin h32 HNM
      go_wp2_with fail
      refine (oz HSM _).mono ?_
      rintro e w1 ⟨rfl,rfl⟩
      go_wp2_with fail
      refine (oz HDG _).mono ?_
      rintro e w1 ⟨rfl,rfl⟩
      go_wp2_with fail
      have hfin:=oz HFIN
      have e0:=hfin.1.cell 0
      have e1:=hfin.1.cell 1
      have e2:=hfin.1.cell 2
      have e3:=hfin.1.cell 3
      have e4:=hfin.1.cell 4
      have e5:=hfin.1.cell 5
      have HB:=kz hfin.2
      exact bodyPost_ret (v := .tuple #[.agg (wz (.int .i64 a)),.int .i64 (p:Int),.bool false]) (by simp [results,Tryz.results81,go_sem,e0,e1,e2,e3,e4,e5]) rfl ⟨_,by rw [oz HEd,oz HPN],(fun q =>by rw [oz HEd] at q;cases q),⟨_,_,_,_,_,_,rfl⟩,oz HB⟩
     ·have t32:((k:Int) == 32)=false:=by simp;omega
      have HN2:=kz (zjy (oz HNM) (oz HINI) (show k < min (rst s a).size 32 by rw [hz];have:=oz HPK;omega) (by rw [zaK s a k (by omega), ← oz HPK,hgx];exact hin))
      have HPK2:Hz (p+1=a+(k+1)):=kz (by have:=oz HPK;omega)
      have HK:=kz (show k+1≤32 by omega)
      clear hgx hin h32 HNM
      go_wp2_with fail
      refine (oz HSM _).mono ?_
      rintro e w1 ⟨rfl,rfl⟩
      go_wp2_with fail
      refine (oz HDG _).mono ?_
      rintro e w1 ⟨rfl,rfl⟩
      go_wp2_with fail
      go_round
      case rel =>exact ⟨p+1,k+1,by omega,by omega,oz HK,by go_num,HPK2,HN2⟩
      case measure =>simp [intOf];omega
   ·rw [hsm] at HSM
    have hin:zcd x=true:=by unfold zcd;rw [hsm];rfl
    by_cases h32:k=32
    ·have t32:((k:Int) == 32)=true:=by simp;omega
     have hnk:n=32:=nm_top (oz HNM) h32 (by rw [hz];have:=oz HPK;omega)
     have he:za9 (rst s a) n=false:=by rw [zdB s a n (by have:=oz HPK;omega),hnk,decide_eq_false (by have:=oz HPK;omega),show a+32=p by have:=oz HPK;omega,hgx,zdR hin];rfl
     have HEd:=kz he
     have HPN:=kz (show (p:Int)=((a+n:Nat):Int) by have:=oz HPK;omega)
     have h2:=(oz HST)
     have r0:=h2.res.cell 0
     have r1:=h2.res.cell 1
     have r2:=h2.res.cell 2
     have r3:=h2.res.cell 3
     have r4:=h2.res.cell 4
     have r5:=h2.res.cell 5
     have rf0:=h2.res.frozen 0
     have rf1:=h2.res.frozen 1
     have rf2:=h2.res.frozen 2
     have rf3:=h2.res.frozen 3
     have rf4:=h2.res.frozen 4
     have rf5:=h2.res.frozen 5
     have g0:=h2.cur.cell 0
     have g1:=h2.cur.cell 1
     have g2:=h2.cur.cell 2
     have g3:=h2.cur.cell 3
     have g4:=h2.cur.cell 4
     have g5:=h2.cur.cell 5
     have hfin:=h2.fin (.int .i64 0) (.string ⟨#[]⟩) (.int .i32 0) (.int .i64 0) (.int .i64 a) (.int .i64 0)
     have HFIN:=kz hfin
     clear hfin h2 he hnk hgx hin h32 HNM
     go_wp2_with fail
     refine (oz HSM _).mono ?_
     rintro e w1 ⟨rfl,rfl⟩
     go_wp2_with fail
     have hfin:=oz HFIN
     have e0:=hfin.1.cell 0
     have e1:=hfin.1.cell 1
     have e2:=hfin.1.cell 2
     have e3:=hfin.1.cell 3
     have e4:=hfin.1.cell 4
     have e5:=hfin.1.cell 5
     have HB:=kz hfin.2
     exact bodyPost_ret (v := .tuple #[.agg (wz (.int .i64 a)),.int .i64 (p:Int),.bool false]) (by simp [results,Tryz.results81,go_sem,e0,e1,e2,e3,e4,e5]) rfl ⟨_,by rw [oz HEd,oz HPN],(fun q =>by rw [oz HEd] at q;cases q),⟨_,_,_,_,_,_,rfl⟩,oz HB⟩
    ·have t32:((k:Int) == 32)=false:=by simp;omega
     have HN2:=kz (zjy (oz HNM) (oz HINI) (show k < min (rst s a).size 32 by rw [hz];have:=oz HPK;omega) (by rw [zaK s a k (by omega), ← oz HPK,hgx];exact hin))
     have HPK2:Hz (p+1=a+(k+1)):=kz (by have:=oz HPK;omega)
     have HK:=kz (show k+1≤32 by omega)
     clear hgx hin h32 HNM
     go_wp2_with fail
     refine (oz HSM _).mono ?_
     rintro e w1 ⟨rfl,rfl⟩
     go_wp2_with fail
     go_round
     case rel =>exact ⟨p+1,k+1,by omega,by omega,oz HK,by go_num,HPK2,HN2⟩
     case measure =>simp [intOf];omega
  ·skip
   have hps':¬ (p:Int) < (s.size:Int):=by omega
   have hk1:1≤k∧n=k:=nm_end (oz HNM) (fun e =>by have q:=oz HPK;omega) (by rw [hz];intro q;have:=oz HPK;omega)
   have hnk:=hk1.2
   have hp1:p - 1 < s.size:=by omega
   have hgd:=zaz s (p - 1) hp1
   have hdl:=zaX s (p - 1)
   have hin1:zcd (bt s (p - 1))=true:=by
    have:=zc2 (rst s a) (min (rst s a).size 32) 1 (by omega) (by omega) (by rw [hz];omega) (by rw [zaK s a 0 (by omega),Nat.add_zero,show bt s a=c from (zaz s a ha).trans ec];unfold zcd;rw [hsml];rfl)
    rw [← oz HINI,zaK s a _ (by omega),show a+(n - 1)=p - 1 by have:=oz HPK;omega] at this
    exact this
   obtain ⟨d,ed⟩:∃ d,(s[p - 1]'hp1).toNat=d:=⟨_,rfl⟩
   rw [ed] at hgd
   rw [hgd] at hdl hin1
   have hcd:=zb8 d hdl
   rw [zdR hin1] at hcd
   have HCL:=kz hcd
   have hei:(p:Int) - 1=((p - 1:Nat):Int):=by have:=oz HPK;omega
   have hel:((p - 1:Nat):Int) < (s.size:Int):=by omega
   have h39:((c:Int) != 39)=true:=by have:=ze4.1 hsml;simp;omega
   have hap':(a:Int)≤(p:Int):=by omega
   have hps2:(p:Int)≤(s.size:Int):=by omega
   have hpn:p=a+n:=by have:=oz HPK;omega
   have hex:(rst s a).extract 0 n=s.extract a p:=by
    unfold rst
    rw [ByteArray.extract_extract,Nat.add_zero,hpn,Nat.min_eq_left (by omega)]
   have HEX:=kz hex
   have HPN:=kz (show (p:Int)=((a+n:Nat):Int) by omega)
   have HEd:Hz (za9 (rst s a) n=true):=kz (by rw [zdB s a n (by omega),decide_eq_true (by omega)];rfl)
   clear hk1 hnk hgd hin1 hcd hpn hex hsml HNM
   have hcu:=(oz HST).cur
   have k0:=hcu.cell 0
   have f0:=hcu.frozen 0
   have f1:=(hcu.set 0 (.int .i64 1)).frozen 1
   have k1:=(hcu.set 0 (.int .i64 1)).cell 1
   clear hcu
   go_wp2_with fail
   refine (oz HCL _).mono ?_
   rintro e w1 ⟨rfl,rfl⟩
   have h2:=(((oz HST).set 0 (.int .i64 1)).set 1 (.string (s.extract a p)))
   have r0:=h2.res.cell 0
   have r1:=h2.res.cell 1
   have r2:=h2.res.cell 2
   have r3:=h2.res.cell 3
   have r4:=h2.res.cell 4
   have r5:=h2.res.cell 5
   have rf0:=h2.res.frozen 0
   have rf1:=h2.res.frozen 1
   have rf2:=h2.res.frozen 2
   have rf3:=h2.res.frozen 3
   have rf4:=h2.res.frozen 4
   have rf5:=h2.res.frozen 5
   have c5:=h2.cur.cell 5
   have cf5:=h2.cur.frozen 5
   have h3:=h2.set 5 (.int .i64 (p:Int))
   have g0:=h3.cur.cell 0
   have g1:=h3.cur.cell 1
   have g2:=h3.cur.cell 2
   have g3:=h3.cur.cell 3
   have g4:=h3.cur.cell 4
   have g5:=h3.cur.cell 5
   have hfin:=h3.fin (.int .i64 1) (.string (s.extract a p)) (.int .i32 0) (.int .i64 0) (.int .i64 a) (.int .i64 (p:Int))
   have HFIN:=kz hfin
   clear hfin h2 h3
   go_wp2_with fail
   have hfin:=oz HFIN
   have e0:=hfin.1.cell 0
   have e1:=hfin.1.cell 1
   have e2:=hfin.1.cell 2
   have e3:=hfin.1.cell 3
   have e4:=hfin.1.cell 4
   have e5:=hfin.1.cell 5
   have HB:=kz hfin.2
   exact bodyPost_ret (v := .tuple #[.agg #[.int .i64 1,.string (s.extract a p),.int .i32 0,.int .i64 0,.int .i64 a,.int .i64 (p:Int)],.int .i64 (p:Int),.bool true]) (by simp [results,Tryz.results81,go_sem,e0,e1,e2,e3,e4,e5]) rfl ⟨_,by rw [oz HEd,oz HPN],fun _ =>by rw [← oz HEX];rfl,⟨_,_,_,_,_,_,rfl⟩,oz HB⟩
end Go.Proofs.YtmdgejgokoadlaaGreatDoor
