/- The reference's word, part B. -/
import Derived.Test.YtmdgejgokoadlaaGreatDoorM27
namespace Go.Proofs.YtmdgejgokoadlaaGreatDoor
open Go.RowKit Go.Shelf
set_option linter.unusedVariables false
set_option maxRecDepth 100000 in
set_option maxHeartbeats 8000000 in
theorem word_asg (s:ByteArray) (hs:s.size≤1099511627776) (a:Nat) (ha:a < s.size) (hc:bt s a=61) (w:World):Calls Tryz.prog 81 #[.string s,.int .i64 a] w fun e w' => ∃ V,e=.returned (.tuple #[V,.int .i64 ((a+(zac (rst s a)).n:Nat):Int),.bool (zac (rst s a)).ok])∧((zac (rst s a)).ok=true→V=zcs (zac (rst s a)) a)∧IsW V∧Below w.heap.size w w':=by
 have hb0:bt (rst s a) 0=bt s a:=zaK s a 0 (by omega)
 have hv:zac (rst s a)=⟨7,ByteArray.empty,0,0,1,true⟩:=by
  unfold zac zck
  rw [hb0,hc]
  rfl
 rw [hv]
 have hgb:=zaz s a ha
 rw [hc] at hgb
 have hl:(a:Int) < (s.size:Int):=by omega
 have hgb':(s[a]'ha).toNat=61:=hgb.symm
 have hei:(a:Int)+1 - 1=(a:Int):=by omega
 clear hv hb0 hc hgb
 go_enter Tryz.func81,Tryz.ntmps81
 go_wp2_with fail
 have hst0:=zbq w a
 generalize (w.alloc (.cells (wz (.int .i64 0)) 123)).alloc (.cells (wz (.int .i64 a)) 123)=W0 at *
 have HST:=kz hst0
 clear hst0
 refine (zba 61 61 rfl (by decide) false (by decide) _).mono ?_
 rintro e w1 ⟨rfl,rfl⟩
 go_wp2_with fail
 refine (zbn 61 61 rfl (by decide) false (by decide) _).mono ?_
 rintro e w1 ⟨rfl,rfl⟩
 have hcu:=(oz HST).cur
 have k0:=hcu.cell 0
 have f0:=hcu.frozen 0
 clear hcu
 go_wp2_with fail
 refine wp_loop_rounds 6 ?_
 iterate 6
   rw [rounds_succ]
   go_wp2_with fail
 refine (zds 61 61 rfl (by decide) false (by decide) _).mono ?_
 rintro e w1 ⟨rfl,rfl⟩
 have h2:=((oz HST).set 0 (.int .i64 7))
 have r0:=h2.res.cell 0
 have r1:=h2.res.cell 1
 have r2:=h2.res.cell 2
 have r3:=h2.res.cell 3
 have r4:=h2.res.cell 4
 have r5:=h2.res.cell 5
 have rf0:=h2.res.frozen 0
 have rf1:=h2.res.frozen 1
 have rf2:=h2.res.frozen 2
 have rf3:=h2.res.frozen 3
 have rf4:=h2.res.frozen 4
 have rf5:=h2.res.frozen 5
 have c5:=h2.cur.cell 5
 have cf5:=h2.cur.frozen 5
 have h3:=h2.set 5 (.int .i64 ((a:Int)+(1:Int)))
 have g0:=h3.cur.cell 0
 have g1:=h3.cur.cell 1
 have g2:=h3.cur.cell 2
 have g3:=h3.cur.cell 3
 have g4:=h3.cur.cell 4
 have g5:=h3.cur.cell 5
 have hfin:=h3.fin (.int .i64 7) (.string (⟨#[]⟩:ByteArray)) (.int .i32 0) (.int .i64 0) (.int .i64 a) (.int .i64 ((a:Int)+(1:Int)))
 have HFIN:=kz hfin
 clear hfin h2 h3
 go_wp2_with fail
 have hfin:=oz HFIN
 have e0:=hfin.1.cell 0
 have e1:=hfin.1.cell 1
 have e2:=hfin.1.cell 2
 have e3:=hfin.1.cell 3
 have e4:=hfin.1.cell 4
 have e5:=hfin.1.cell 5
 have HB:=kz hfin.2
 exact bodyPost_ret (v := .tuple #[zcs ⟨7,ByteArray.empty,0,0,1,true⟩ a,.int .i64 ((a:Int)+(1:Int)),.bool true]) (by simp [results,Tryz.results81,go_sem,e0,e1,e2,e3,e4,e5];first | rfl | exact ⟨rfl,by omega⟩) rfl ⟨_,rfl,by first | exact fun _ =>rfl | rfl,⟨_,_,_,_,_,_,rfl⟩,oz HB⟩
set_option maxRecDepth 100000 in
set_option maxHeartbeats 8000000 in
theorem word_plus (s:ByteArray) (hs:s.size≤1099511627776) (a:Nat) (ha:a < s.size) (hc:bt s a=43) (w:World):Calls Tryz.prog 81 #[.string s,.int .i64 a] w fun e w' => ∃ V,e=.returned (.tuple #[V,.int .i64 ((a+(zac (rst s a)).n:Nat):Int),.bool (zac (rst s a)).ok])∧((zac (rst s a)).ok=true→V=zcs (zac (rst s a)) a)∧IsW V∧Below w.heap.size w w':=by
 have hb0:bt (rst s a) 0=bt s a:=zaK s a 0 (by omega)
 have hv:zac (rst s a)=⟨8,ByteArray.empty,0,0,1,true⟩:=by
  unfold zac zck
  rw [hb0,hc]
  rfl
 rw [hv]
 have hgb:=zaz s a ha
 rw [hc] at hgb
 have hl:(a:Int) < (s.size:Int):=by omega
 have hgb':(s[a]'ha).toNat=43:=hgb.symm
 have hei:(a:Int)+1 - 1=(a:Int):=by omega
 clear hv hb0 hc hgb
 go_enter Tryz.func81,Tryz.ntmps81
 go_wp2_with fail
 have hst0:=zbq w a
 generalize (w.alloc (.cells (wz (.int .i64 0)) 123)).alloc (.cells (wz (.int .i64 a)) 123)=W0 at *
 have HST:=kz hst0
 clear hst0
 refine (zba 43 43 rfl (by decide) false (by decide) _).mono ?_
 rintro e w1 ⟨rfl,rfl⟩
 go_wp2_with fail
 refine (zbn 43 43 rfl (by decide) false (by decide) _).mono ?_
 rintro e w1 ⟨rfl,rfl⟩
 have hcu:=(oz HST).cur
 have k0:=hcu.cell 0
 have f0:=hcu.frozen 0
 clear hcu
 go_wp2_with fail
 refine wp_loop_rounds 6 ?_
 iterate 6
   rw [rounds_succ]
   go_wp2_with fail
 refine (zds 43 43 rfl (by decide) false (by decide) _).mono ?_
 rintro e w1 ⟨rfl,rfl⟩
 have h2:=((oz HST).set 0 (.int .i64 8))
 have r0:=h2.res.cell 0
 have r1:=h2.res.cell 1
 have r2:=h2.res.cell 2
 have r3:=h2.res.cell 3
 have r4:=h2.res.cell 4
 have r5:=h2.res.cell 5
 have rf0:=h2.res.frozen 0
 have rf1:=h2.res.frozen 1
 have rf2:=h2.res.frozen 2
 have rf3:=h2.res.frozen 3
 have rf4:=h2.res.frozen 4
 have rf5:=h2.res.frozen 5
 have c5:=h2.cur.cell 5
 have cf5:=h2.cur.frozen 5
 have h3:=h2.set 5 (.int .i64 ((a:Int)+(1:Int)))
 have g0:=h3.cur.cell 0
 have g1:=h3.cur.cell 1
 have g2:=h3.cur.cell 2
 have g3:=h3.cur.cell 3
 have g4:=h3.cur.cell 4
 have g5:=h3.cur.cell 5
 have hfin:=h3.fin (.int .i64 8) (.string (⟨#[]⟩:ByteArray)) (.int .i32 0) (.int .i64 0) (.int .i64 a) (.int .i64 ((a:Int)+(1:Int)))
 have HFIN:=kz hfin
 clear hfin h2 h3
 go_wp2_with fail
 have hfin:=oz HFIN
 have e0:=hfin.1.cell 0
 have e1:=hfin.1.cell 1
 have e2:=hfin.1.cell 2
 have e3:=hfin.1.cell 3
 have e4:=hfin.1.cell 4
 have e5:=hfin.1.cell 5
 have HB:=kz hfin.2
 exact bodyPost_ret (v := .tuple #[zcs ⟨8,ByteArray.empty,0,0,1,true⟩ a,.int .i64 ((a:Int)+(1:Int)),.bool true]) (by simp [results,Tryz.results81,go_sem,e0,e1,e2,e3,e4,e5];first | rfl | exact ⟨rfl,by omega⟩) rfl ⟨_,rfl,by first | exact fun _ =>rfl | rfl,⟨_,_,_,_,_,_,rfl⟩,oz HB⟩
set_option maxRecDepth 100000 in
set_option maxHeartbeats 8000000 in
theorem word_num (s:ByteArray) (hs:s.size≤1099511627776) (a:Nat) (ha:a < s.size) (hdg:zcr (bt s a)=true) (w:World):Calls Tryz.prog 81 #[.string s,.int .i64 a] w fun e w' => ∃ V,e=.returned (.tuple #[V,.int .i64 ((a+(zac (rst s a)).n:Nat):Int),.bool (zac (rst s a)).ok])∧((zac (rst s a)).ok=true→V=zcs (zac (rst s a)) a)∧IsW V∧Below w.heap.size w w':=by
 have hb0:bt (rst s a) 0=bt s a:=zaK s a 0 (by omega)
 have hz:=zah s a
 have hnr:=number_ref s hs a ha hdg
 have hle:=zeK (rst s a) (rst s a).size (bt (rst s a) 0 - 48) 1 (by omega) (by omega)
 have hpv:=zix (rst s a) (by omega) (by rw [hb0];exact hdg)
 have hle':1≤(zcH (rst s a)).2∧(zcH (rst s a)).2≤(rst s a).size:=⟨hle.1,hle.2.1⟩
 have hsm:zaP (bt s a)=false:=by have:=zdC.1 hdg;exact decide_eq_false (by omega)
 have hv0:zac (rst s a)=⟨2,ByteArray.empty,0,(zcH (rst s a)).1,(zcH (rst s a)).2,za9 (rst s a) (zcH (rst s a)).2⟩:=by
  unfold zac
  rw [hb0,if_neg (by rw [hsm];decide),if_pos hdg]
 rw [hv0]
 clear hv0 hle
 generalize zcH (rst s a)=vn at *
 obtain ⟨V,N⟩:=vn
 simp only [] at hnr hpv hle'
 have hed:za9 (rst s a) N=(decide (a+N=s.size) || !zdN (bt s (a+N))):=by
  unfold za9
  rw [hz,zaK s a N (by omega)]
  congr 1
  exact decide_eq_decide.2 (by omega)
 have hn1:1≤N∧a+N≤s.size:=by omega
 have hpl:a+N - 1 < s.size:=by omega
 have hcl:=zaX s (a+N - 1)
 have hgp:=zaz s (a+N - 1) hpl
 rw [zaK s a (N - 1) (by omega),show a+(N - 1)=a+N - 1 by omega] at hpv
 obtain ⟨d,ed⟩:∃ d,(s[a+N - 1]'hpl).toNat=d:=⟨_,rfl⟩
 rw [hgp,ed] at hcl hpv
 have hcr:=zb8 d hcl
 rw [zhm hpv] at hcr
 have HCL:=kz hcr
 have hei:(a:Int)+(N:Int) - 1=((a+N - 1:Nat):Int):=by omega
 have hel:((a+N - 1:Nat):Int) < (s.size:Int):=by omega
 have hen:(a:Int)+(N:Int)≤(s.size:Int):=by omega
 have hgb:=zaz s a ha
 have hcb:=zaX s a
 obtain ⟨c,ec⟩:∃ c,(s[a]'ha).toNat=c:=⟨_,rfl⟩
 rw [ec] at hgb
 rw [hgb] at hdg hsm hcb
 have HS:=kz (zdT c hcb)
 have HD:=kz (zcq c hcb)
 rw [hsm] at HS
 rw [hdg] at HD
 have h39:((c:Int) != 39)=true:=by have:=zdC.1 hdg;simp;omega
 have hl:(a:Int) < (s.size:Int):=by omega
 clear hb0 hz hgp hpv hcr hgb hle' hsm hdg
 show Calls Tryz.prog 81 #[.string s,.int .i64 a] w fun e w' => ∃ X,e=.returned (.tuple #[X,.int .i64 ((a+N:Nat):Int),.bool (za9 (rst s a) N)])∧(za9 (rst s a) N=true→X=zcs ⟨2,ByteArray.empty,0,V,N,za9 (rst s a) N⟩ a)∧IsW X∧Below w.heap.size w w'
 cases hnd:zeM s (a+N)
 ·have he:za9 (rst s a) N=false:=by
   rw [hed]
   unfold zeM at hnd
   simp at hnd
   rw [decide_eq_false (by omega),zhm hnd.2]
   rfl
  rw [he]
  rw [hnd,if_neg (by decide)] at hnr
  have HN:=kz hnr
  clear hnr he hed hnd
  go_enter Tryz.func81,Tryz.ntmps81
  go_wp2_with fail
  have hst0:=zbq w a
  generalize (w.alloc (.cells (wz (.int .i64 0)) 123)).alloc (.cells (wz (.int .i64 a)) 123)=W0 at *
  have HST:=kz hst0
  clear hst0
  refine (oz HS _).mono ?_
  rintro e w1 ⟨rfl,rfl⟩
  go_wp2_with fail
  refine (oz HD _).mono ?_
  rintro e w1 ⟨rfl,rfl⟩
  have hcu:=(oz HST).cur
  have k0:=hcu.cell 0
  have f0:=hcu.frozen 0
  have f3:=(hcu.set 0 (.int .i64 2)).frozen 3
  have k3:=(hcu.set 0 (.int .i64 2)).cell 3
  clear hcu
  go_wp2_with fail
  refine (oz HN _).mono ?_
  rintro e w1 ⟨rfl,rfl⟩
  have h2:=(((oz HST).set 0 (.int .i64 2)).set 3 (.int .i64 0))
  have r0:=h2.res.cell 0
  have r1:=h2.res.cell 1
  have r2:=h2.res.cell 2
  have r3:=h2.res.cell 3
  have r4:=h2.res.cell 4
  have r5:=h2.res.cell 5
  have rf0:=h2.res.frozen 0
  have rf1:=h2.res.frozen 1
  have rf2:=h2.res.frozen 2
  have rf3:=h2.res.frozen 3
  have rf4:=h2.res.frozen 4
  have rf5:=h2.res.frozen 5
  have hfin:=h2.fin (.int .i64 0) (.string ⟨#[]⟩) (.int .i32 0) (.int .i64 0) (.int .i64 0) (.int .i64 0)
  have HFIN:=kz hfin
  clear hfin h2
  go_wp2_with fail
  have hfin:=oz HFIN
  have e0:=hfin.1.cell 0
  have e1:=hfin.1.cell 1
  have e2:=hfin.1.cell 2
  have e3:=hfin.1.cell 3
  have e4:=hfin.1.cell 4
  have e5:=hfin.1.cell 5
  have HB:=kz hfin.2
  exact bodyPost_ret (v := .tuple #[.agg (wz (.int .i64 0)),.int .i64 ((a:Int)+(N:Int)),.bool false]) (by simp [results,Tryz.results81,go_sem,e0,e1,e2,e3,e4,e5]) rfl ⟨_,rfl,(fun q =>by cases q),⟨_,_,_,_,_,_,rfl⟩,oz HB⟩
 ·rw [hnd,if_pos rfl] at hnr
  have HN:=kz hnr
  clear hnr hnd
  by_cases hend:a+N < s.size
  ·have hend':(a:Int)+(N:Int) < (s.size:Int):=by omega
   have hge:=zaz s (a+N) hend
   have hxl:=zaX s (a+N)
   obtain ⟨x,ex⟩:∃ x,(s[a+N]'hend).toNat=x:=⟨_,rfl⟩
   rw [hge,ex] at hxl hed
   rw [decide_eq_false (by omega),Bool.false_or] at hed
   have hcx:=zb8 x hxl
   cases hsx:zdN x
   ·rw [hsx] at hed hcx
    rw [show za9 (rst s a) N=true from hed]
    have HX:=kz hcx
    clear hed hcx hge hsx
    go_enter Tryz.func81,Tryz.ntmps81
    go_wp2_with fail
    have hst0:=zbq w a
    generalize (w.alloc (.cells (wz (.int .i64 0)) 123)).alloc (.cells (wz (.int .i64 a)) 123)=W0 at *
    have HST:=kz hst0
    clear hst0
    refine (oz HS _).mono ?_
    rintro e w1 ⟨rfl,rfl⟩
    go_wp2_with fail
    refine (oz HD _).mono ?_
    rintro e w1 ⟨rfl,rfl⟩
    have hcu:=(oz HST).cur
    have k0:=hcu.cell 0
    have f0:=hcu.frozen 0
    have f3:=(hcu.set 0 (.int .i64 2)).frozen 3
    have k3:=(hcu.set 0 (.int .i64 2)).cell 3
    clear hcu
    go_wp2_with fail
    refine (oz HN _).mono ?_
    rintro e w1 ⟨rfl,rfl⟩
    go_wp2_with fail
    refine (oz HCL _).mono ?_
    rintro e w1 ⟨rfl,rfl⟩
    go_wp2_with fail
    refine (oz HX _).mono ?_
    rintro e w1 ⟨rfl,rfl⟩
    have h2:=(((oz HST).set 0 (.int .i64 2)).set 3 (.int .i64 V))
    have r0:=h2.res.cell 0
    have r1:=h2.res.cell 1
    have r2:=h2.res.cell 2
    have r3:=h2.res.cell 3
    have r4:=h2.res.cell 4
    have r5:=h2.res.cell 5
    have rf0:=h2.res.frozen 0
    have rf1:=h2.res.frozen 1
    have rf2:=h2.res.frozen 2
    have rf3:=h2.res.frozen 3
    have rf4:=h2.res.frozen 4
    have rf5:=h2.res.frozen 5
    have c5:=h2.cur.cell 5
    have cf5:=h2.cur.frozen 5
    have h3:=h2.set 5 (.int .i64 ((a:Int)+(N:Int)))
    have g0:=h3.cur.cell 0
    have g1:=h3.cur.cell 1
    have g2:=h3.cur.cell 2
    have g3:=h3.cur.cell 3
    have g4:=h3.cur.cell 4
    have g5:=h3.cur.cell 5
    have hfin:=h3.fin (.int .i64 2) (.string (⟨#[]⟩:ByteArray)) (.int .i32 0) (.int .i64 V) (.int .i64 a) (.int .i64 ((a:Int)+(N:Int)))
    have HFIN:=kz hfin
    clear hfin h2 h3
    go_wp2_with fail
    have hfin:=oz HFIN
    have e0:=hfin.1.cell 0
    have e1:=hfin.1.cell 1
    have e2:=hfin.1.cell 2
    have e3:=hfin.1.cell 3
    have e4:=hfin.1.cell 4
    have e5:=hfin.1.cell 5
    have HB:=kz hfin.2
    exact bodyPost_ret (v := .tuple #[zcs ⟨2,ByteArray.empty,0,V,N,true⟩ a,.int .i64 ((a:Int)+(N:Int)),.bool true]) (by simp [results,Tryz.results81,go_sem,e0,e1,e2,e3,e4,e5];first | rfl | exact ⟨rfl,by omega⟩) rfl ⟨_,rfl,by first | exact fun _ =>rfl | rfl,⟨_,_,_,_,_,_,rfl⟩,oz HB⟩
   ·rw [hsx] at hed hcx
    rw [show za9 (rst s a) N=false from hed]
    have HX:=kz hcx
    clear hed hcx hge hsx
    go_enter Tryz.func81,Tryz.ntmps81
    go_wp2_with fail
    have hst0:=zbq w a
    generalize (w.alloc (.cells (wz (.int .i64 0)) 123)).alloc (.cells (wz (.int .i64 a)) 123)=W0 at *
    have HST:=kz hst0
    clear hst0
    refine (oz HS _).mono ?_
    rintro e w1 ⟨rfl,rfl⟩
    go_wp2_with fail
    refine (oz HD _).mono ?_
    rintro e w1 ⟨rfl,rfl⟩
    have hcu:=(oz HST).cur
    have k0:=hcu.cell 0
    have f0:=hcu.frozen 0
    have f3:=(hcu.set 0 (.int .i64 2)).frozen 3
    have k3:=(hcu.set 0 (.int .i64 2)).cell 3
    clear hcu
    go_wp2_with fail
    refine (oz HN _).mono ?_
    rintro e w1 ⟨rfl,rfl⟩
    go_wp2_with fail
    refine (oz HCL _).mono ?_
    rintro e w1 ⟨rfl,rfl⟩
    go_wp2_with fail
    refine (oz HX _).mono ?_
    rintro e w1 ⟨rfl,rfl⟩
    have h2:=(((oz HST).set 0 (.int .i64 2)).set 3 (.int .i64 V))
    have r0:=h2.res.cell 0
    have r1:=h2.res.cell 1
    have r2:=h2.res.cell 2
    have r3:=h2.res.cell 3
    have r4:=h2.res.cell 4
    have r5:=h2.res.cell 5
    have rf0:=h2.res.frozen 0
    have rf1:=h2.res.frozen 1
    have rf2:=h2.res.frozen 2
    have rf3:=h2.res.frozen 3
    have rf4:=h2.res.frozen 4
    have rf5:=h2.res.frozen 5
    have hfin:=h2.fin (.int .i64 0) (.string ⟨#[]⟩) (.int .i32 0) (.int .i64 0) (.int .i64 0) (.int .i64 0)
    have HFIN:=kz hfin
    clear hfin h2
    go_wp2_with fail
    have hfin:=oz HFIN
    have e0:=hfin.1.cell 0
    have e1:=hfin.1.cell 1
    have e2:=hfin.1.cell 2
    have e3:=hfin.1.cell 3
    have e4:=hfin.1.cell 4
    have e5:=hfin.1.cell 5
    have HB:=kz hfin.2
    exact bodyPost_ret (v := .tuple #[.agg (wz (.int .i64 0)),.int .i64 ((a:Int)+(N:Int)),.bool false]) (by simp [results,Tryz.results81,go_sem,e0,e1,e2,e3,e4,e5]) rfl ⟨_,rfl,(fun q =>by cases q),⟨_,_,_,_,_,_,rfl⟩,oz HB⟩
  ·have hend':¬ (a:Int)+(N:Int) < (s.size:Int):=by omega
   rw [decide_eq_true (by omega),Bool.true_or] at hed
   rw [hed]
   clear hed
   go_enter Tryz.func81,Tryz.ntmps81
   go_wp2_with fail
   have hst0:=zbq w a
   generalize (w.alloc (.cells (wz (.int .i64 0)) 123)).alloc (.cells (wz (.int .i64 a)) 123)=W0 at *
   have HST:=kz hst0
   clear hst0
   refine (oz HS _).mono ?_
   rintro e w1 ⟨rfl,rfl⟩
   go_wp2_with fail
   refine (oz HD _).mono ?_
   rintro e w1 ⟨rfl,rfl⟩
   have hcu:=(oz HST).cur
   have k0:=hcu.cell 0
   have f0:=hcu.frozen 0
   have f3:=(hcu.set 0 (.int .i64 2)).frozen 3
   have k3:=(hcu.set 0 (.int .i64 2)).cell 3
   clear hcu
   go_wp2_with fail
   refine (oz HN _).mono ?_
   rintro e w1 ⟨rfl,rfl⟩
   go_wp2_with fail
   refine (oz HCL _).mono ?_
   rintro e w1 ⟨rfl,rfl⟩
   have h2:=(((oz HST).set 0 (.int .i64 2)).set 3 (.int .i64 V))
   have r0:=h2.res.cell 0
   have r1:=h2.res.cell 1
   have r2:=h2.res.cell 2
   have r3:=h2.res.cell 3
   have r4:=h2.res.cell 4
   have r5:=h2.res.cell 5
   have rf0:=h2.res.frozen 0
   have rf1:=h2.res.frozen 1
   have rf2:=h2.res.frozen 2
   have rf3:=h2.res.frozen 3
   have rf4:=h2.res.frozen 4
   have rf5:=h2.res.frozen 5
   have c5:=h2.cur.cell 5
   have cf5:=h2.cur.frozen 5
   have h3:=h2.set 5 (.int .i64 ((a:Int)+(N:Int)))
   have g0:=h3.cur.cell 0
   have g1:=h3.cur.cell 1
   have g2:=h3.cur.cell 2
   have g3:=h3.cur.cell 3
   have g4:=h3.cur.cell 4
   have g5:=h3.cur.cell 5
   have hfin:=h3.fin (.int .i64 2) (.string (⟨#[]⟩:ByteArray)) (.int .i32 0) (.int .i64 V) (.int .i64 a) (.int .i64 ((a:Int)+(N:Int)))
   have HFIN:=kz hfin
   clear hfin h2 h3
   go_wp2_with fail
   have hfin:=oz HFIN
   have e0:=hfin.1.cell 0
   have e1:=hfin.1.cell 1
   have e2:=hfin.1.cell 2
   have e3:=hfin.1.cell 3
   have e4:=hfin.1.cell 4
   have e5:=hfin.1.cell 5
   have HB:=kz hfin.2
   exact bodyPost_ret (v := .tuple #[zcs ⟨2,ByteArray.empty,0,V,N,true⟩ a,.int .i64 ((a:Int)+(N:Int)),.bool true]) (by simp [results,Tryz.results81,go_sem,e0,e1,e2,e3,e4,e5];first | rfl | exact ⟨rfl,by omega⟩) rfl ⟨_,rfl,by first | exact fun _ =>rfl | rfl,⟨_,_,_,_,_,_,rfl⟩,oz HB⟩
end Go.Proofs.YtmdgejgokoadlaaGreatDoor
