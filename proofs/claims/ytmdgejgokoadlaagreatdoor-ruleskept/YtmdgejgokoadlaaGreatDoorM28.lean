/- Texts of this claim, one behind the other. -/
import Derived.Test.YtmdgejgokoadlaaGreatDoorM27
import Derived.Test.YtmdgejgokoadlaaGreatDoorScRWdB
import Derived.Test.YtmdgejgokoadlaaGreatDoorScRWdC
import Derived.Test.YtmdgejgokoadlaaGreatDoorM26
import Derived.Deep.AppendLies
/- The reference's word, part D. -/
namespace Go.Proofs.YtmdgejgokoadlaaGreatDoor
open Go.RowKit Go.Shelf
set_option linter.unusedVariables false
theorem sgn_dot (t:ByteArray) (h:bt t 0=46):zck t=if zej t=true then (9,2,true) else (0,1,false):=by
 unfold zck
 rw [h,if_neg (by decide),if_neg (by decide),if_neg (by decide),if_neg (by decide),if_neg (by decide),if_pos rfl]
theorem dots_yes (t:ByteArray) (h:2≤t.size) (h0:bt t 0=46) (h1:bt t 1=46):zej t=true:=by
 have e:t.data.toList=t.get! 0::t.get! 1::t.data.toList.drop 2:=by
  have a:=zd5 t 0 (by omega)
  have b:=zd5 t 1 (by omega)
  rw [List.drop_zero] at a
  exact a.trans (congrArg (List.cons _) b)
 have g0:t.get! 0=46:=by rw [← UInt8.toNat_inj];exact h0
 have g1:t.get! 1=46:=by rw [← UInt8.toNat_inj];exact h1
 unfold zej
 rw [e,g0,g1]
 rfl
theorem dots_no (t:ByteArray) (h:¬ (2≤t.size∧bt t 1=46)):zej t=false:=by
 cases q:zej t with
 | false =>rfl
 | true =>
  have h2:=zgl t q
  have e:t.data.toList=t.get! 0::t.get! 1::t.data.toList.drop 2:=by
   have a:=zd5 t 0 (by omega)
   have b:=zd5 t 1 (by omega)
   rw [List.drop_zero] at a
   exact a.trans (congrArg (List.cons _) b)
  have hp:[46,46] <+: t.data.toList:=List.isPrefixOf_iff_prefix.1 q
  rw [e] at hp
  obtain ⟨r,hr⟩:=hp
  have:t.get! 1=46:=by
   have:=congrArg (fun l =>l[1]?) hr
   simpa using this.symm
  exact absurd ⟨h2,by unfold bt;rw [this];rfl⟩ h
set_option maxRecDepth 100000 in
set_option maxHeartbeats 8000000 in
theorem word_dot (s:ByteArray) (hs:s.size≤1099511627776) (a:Nat) (ha:a < s.size) (hc:bt s a=46) (w:World):Calls Tryz.prog 81 #[.string s,.int .i64 a] w fun e w' => ∃ V,e=.returned (.tuple #[V,.int .i64 ((a+(zac (rst s a)).n:Nat):Int),.bool (zac (rst s a)).ok])∧((zac (rst s a)).ok=true→V=zcs (zac (rst s a)) a)∧IsW V∧Below w.heap.size w w':=by
 have hb0:bt (rst s a) 0=bt s a:=zaK s a 0 (by omega)
 have hb1:bt (rst s a) 1=bt s (a+1):=zaK s a 1 (by omega)
 have hz:=zah s a
 have hv:zac (rst s a)=if zej (rst s a)=true then ⟨9,ByteArray.empty,0,0,2,true⟩ else ⟨0,ByteArray.empty,0,0,1,false⟩:=by
  unfold zac
  rw [hb0,hc,if_neg (by decide),if_neg (by decide),if_neg (by decide),if_neg (by decide),sgn_dot _ (by rw [hb0];exact hc)]
  by_cases q:zej (rst s a)=true
  ·rw [if_pos q,if_pos q]
  ·rw [if_neg q,if_neg q]
 have hgb:=zaz s a ha
 rw [hc] at hgb
 have hl:(a:Int) < (s.size:Int):=by omega
 have hgb':(s[a]'ha).toNat=46:=hgb.symm
 by_cases hl1:a+1 < s.size
 ·have hl1':(a:Int)+1 < (s.size:Int):=by omega
  have hg1:=zaz s (a+1) hl1
  obtain ⟨d,ed⟩:∃ d,(s[a+1]'hl1).toNat=d:=⟨_,rfl⟩
  rw [ed] at hg1
  by_cases hd:d=46
  ·subst hd
   rw [dots_yes _ (by omega) (by rw [hb0];exact hc) (by rw [hb1];exact hg1),if_pos rfl] at hv
   rw [hv]
   have hei:(a:Int)+1+1 - 1=(a:Int)+1:=by omega
   clear hv hb0 hb1 hc hgb hg1 hz
   go_enter Tryz.func81,Tryz.ntmps81
   go_wp2_with fail
   have hst0:=zbq w a
   generalize (w.alloc (.cells (wz (.int .i64 0)) 123)).alloc (.cells (wz (.int .i64 a)) 123)=W0 at *
   have HST:=kz hst0
   clear hst0
   refine (zba 46 46 rfl (by decide) false (by decide) _).mono ?_
   rintro e w1 ⟨rfl,rfl⟩
   go_wp2_with fail
   refine (zbn 46 46 rfl (by decide) false (by decide) _).mono ?_
   rintro e w1 ⟨rfl,rfl⟩
   have hcu:=(oz HST).cur
   have k0:=hcu.cell 0
   have f0:=hcu.frozen 0
   clear hcu
   go_wp2_with fail
   refine (zds 46 46 rfl (by decide) false (by decide) _).mono ?_
   rintro e w1 ⟨rfl,rfl⟩
   have h2:=((oz HST).set 0 (.int .i64 9))
   have r0:=h2.res.cell 0
   have r1:=h2.res.cell 1
   have r2:=h2.res.cell 2
   have r3:=h2.res.cell 3
   have r4:=h2.res.cell 4
   have r5:=h2.res.cell 5
   have rf0:=h2.res.frozen 0
   have rf1:=h2.res.frozen 1
   have rf2:=h2.res.frozen 2
   have rf3:=h2.res.frozen 3
   have rf4:=h2.res.frozen 4
   have rf5:=h2.res.frozen 5
   have c5:=h2.cur.cell 5
   have cf5:=h2.cur.frozen 5
   have h3:=h2.set 5 (.int .i64 ((a:Int)+1+1))
   have g0:=h3.cur.cell 0
   have g1:=h3.cur.cell 1
   have g2:=h3.cur.cell 2
   have g3:=h3.cur.cell 3
   have g4:=h3.cur.cell 4
   have g5:=h3.cur.cell 5
   have hfin:=h3.fin (.int .i64 9) (.string (⟨#[]⟩:ByteArray)) (.int .i32 0) (.int .i64 0) (.int .i64 a) (.int .i64 ((a:Int)+1+1))
   have HFIN:=kz hfin
   clear hfin h2 h3
   go_wp2_with fail
   have hfin:=oz HFIN
   have e0:=hfin.1.cell 0
   have e1:=hfin.1.cell 1
   have e2:=hfin.1.cell 2
   have e3:=hfin.1.cell 3
   have e4:=hfin.1.cell 4
   have e5:=hfin.1.cell 5
   have HB:=kz hfin.2
   exact bodyPost_ret (v := .tuple #[zcs ⟨9,ByteArray.empty,0,0,2,true⟩ a,.int .i64 ((a:Int)+1+1),.bool true]) (by simp [results,Tryz.results81,go_sem,e0,e1,e2,e3,e4,e5];first | rfl | exact ⟨rfl,by omega⟩) rfl ⟨_,rfl,by first | exact fun _ =>rfl | rfl,⟨_,_,_,_,_,_,rfl⟩,oz HB⟩
  ·rw [dots_no _ (by rw [hb1,hg1];exact fun q =>hd q.2),if_neg (by decide)] at hv
   rw [hv]
   have hd':((d:Int) == 46)=false:=by simp;omega
   clear hv hb0 hb1 hc hgb hg1 hz hd
   go_enter Tryz.func81,Tryz.ntmps81
   go_wp2_with fail
   have hst0:=zbq w a
   generalize (w.alloc (.cells (wz (.int .i64 0)) 123)).alloc (.cells (wz (.int .i64 a)) 123)=W0 at *
   have HST:=kz hst0
   clear hst0
   refine (zba 46 46 rfl (by decide) false (by decide) _).mono ?_
   rintro e w1 ⟨rfl,rfl⟩
   go_wp2_with fail
   refine (zbn 46 46 rfl (by decide) false (by decide) _).mono ?_
   rintro e w1 ⟨rfl,rfl⟩
   have hcu:=(oz HST).cur
   have k0:=hcu.cell 0
   have f0:=hcu.frozen 0
   clear hcu
   have h2:=((oz HST).set 0 (.int .i64 9))
   have r0:=(oz HST).res.cell 0
   have r1:=(oz HST).res.cell 1
   have r2:=(oz HST).res.cell 2
   have r3:=(oz HST).res.cell 3
   have r4:=(oz HST).res.cell 4
   have r5:=(oz HST).res.cell 5
   have rf0:=(oz HST).res.frozen 0
   have rf1:=(oz HST).res.frozen 1
   have rf2:=(oz HST).res.frozen 2
   have rf3:=(oz HST).res.frozen 3
   have rf4:=(oz HST).res.frozen 4
   have rf5:=(oz HST).res.frozen 5
   have hfin:=h2.fin (.int .i64 0) (.string ⟨#[]⟩) (.int .i32 0) (.int .i64 0) (.int .i64 0) (.int .i64 0)
   have HFIN:=kz hfin
   clear hfin h2
   go_wp2_with fail
   have hfin:=oz HFIN
   have e0:=hfin.1.cell 0
   have e1:=hfin.1.cell 1
   have e2:=hfin.1.cell 2
   have e3:=hfin.1.cell 3
   have e4:=hfin.1.cell 4
   have e5:=hfin.1.cell 5
   have HB:=kz hfin.2
   exact bodyPost_ret (v := .tuple #[.agg (wz (.int .i64 0)),.int .i64 ((a:Int)+(1:Int)),.bool false]) (by simp [results,Tryz.results81,go_sem,e0,e1,e2,e3,e4,e5]) rfl ⟨_,rfl,(fun q =>by cases q),⟨_,_,_,_,_,_,rfl⟩,oz HB⟩
 ·have hl1':¬ (a:Int)+1 < (s.size:Int):=by omega
  rw [dots_no _ (by omega),if_neg (by decide)] at hv
  rw [hv]
  have hsz:(s.size:Int)=(a:Int)+1:=by omega
  clear hv hb0 hb1 hc hgb hz hl1' hl1
  go_enter Tryz.func81,Tryz.ntmps81
  go_wp2_with fail
  have hst0:=zbq w a
  generalize (w.alloc (.cells (wz (.int .i64 0)) 123)).alloc (.cells (wz (.int .i64 a)) 123)=W0 at *
  have HST:=kz hst0
  clear hst0
  refine (zba 46 46 rfl (by decide) false (by decide) _).mono ?_
  rintro e w1 ⟨rfl,rfl⟩
  go_wp2_with fail
  refine (zbn 46 46 rfl (by decide) false (by decide) _).mono ?_
  rintro e w1 ⟨rfl,rfl⟩
  have hcu:=(oz HST).cur
  have k0:=hcu.cell 0
  have f0:=hcu.frozen 0
  clear hcu
  have h2:=((oz HST).set 0 (.int .i64 9))
  have r0:=(oz HST).res.cell 0
  have r1:=(oz HST).res.cell 1
  have r2:=(oz HST).res.cell 2
  have r3:=(oz HST).res.cell 3
  have r4:=(oz HST).res.cell 4
  have r5:=(oz HST).res.cell 5
  have rf0:=(oz HST).res.frozen 0
  have rf1:=(oz HST).res.frozen 1
  have rf2:=(oz HST).res.frozen 2
  have rf3:=(oz HST).res.frozen 3
  have rf4:=(oz HST).res.frozen 4
  have rf5:=(oz HST).res.frozen 5
  have hfin:=h2.fin (.int .i64 0) (.string ⟨#[]⟩) (.int .i32 0) (.int .i64 0) (.int .i64 0) (.int .i64 0)
  have HFIN:=kz hfin
  clear hfin h2
  go_wp2_with fail
  have hfin:=oz HFIN
  have e0:=hfin.1.cell 0
  have e1:=hfin.1.cell 1
  have e2:=hfin.1.cell 2
  have e3:=hfin.1.cell 3
  have e4:=hfin.1.cell 4
  have e5:=hfin.1.cell 5
  have HB:=kz hfin.2
  exact bodyPost_ret (v := .tuple #[.agg (wz (.int .i64 0)),.int .i64 ((a:Int)+(1:Int)),.bool false]) (by simp [results,Tryz.results81,go_sem,e0,e1,e2,e3,e4,e5]) rfl ⟨_,rfl,(fun q =>by cases q),⟨_,_,_,_,_,_,rfl⟩,oz HB⟩
set_option maxRecDepth 100000 in
set_option maxHeartbeats 8000000 in
theorem zkW (s:ByteArray) (hs:s.size≤1099511627776) (a:Nat) (ha:a < s.size) (h1:zaP (bt s a)=false) (h2:zcr (bt s a)=false) (hn:bt s a≠85∧bt s a≠39∧bt s a≠46∧bt s a≠123∧bt s a≠125∧bt s a≠59∧bt s a≠61∧bt s a≠43) (w:World):Calls Tryz.prog 81 #[.string s,.int .i64 a] w fun e w' => ∃ V,e=.returned (.tuple #[V,.int .i64 ((a+(zac (rst s a)).n:Nat):Int),.bool (zac (rst s a)).ok])∧((zac (rst s a)).ok=true→V=zcs (zac (rst s a)) a)∧IsW V∧Below w.heap.size w w':=by
 have hb0:bt (rst s a) 0=bt s a:=zaK s a 0 (by omega)
 have hv:zac (rst s a)=⟨0,ByteArray.empty,0,0,0,false⟩:=by
  unfold zac zck
  rw [hb0,if_neg (by rw [h1];decide),if_neg (by rw [h2];decide),if_neg hn.1,if_neg hn.2.1,if_neg hn.2.2.2.1,if_neg hn.2.2.2.2.1,if_neg hn.2.2.2.2.2.1,if_neg hn.2.2.2.2.2.2.1,if_neg hn.2.2.2.2.2.2.2,if_neg hn.2.2.1]
 rw [hv]
 have hcl:=zaX s a
 have hgb:=zaz s a ha
 obtain ⟨c,ec⟩:∃ c,(s[a]'ha).toNat=c:=⟨_,rfl⟩
 rw [ec] at hgb
 rw [hgb] at h1 h2 hn hcl
 have hl:(a:Int) < (s.size:Int):=by omega
 obtain ⟨n1,n2,n3,n4,n5,n6,n7,n8⟩:=hn
 have d1:((c:Int) == 85)=false:=by simp;omega
 have d2:((c:Int) == 39)=false:=by simp;omega
 have d3:((c:Int) == 46)=false:=by simp;omega
 have d4:((123:Int) == (c:Int))=false:=by simp;omega
 have d5:((125:Int) == (c:Int))=false:=by simp;omega
 have d6:((59:Int) == (c:Int))=false:=by simp;omega
 have d7:((61:Int) == (c:Int))=false:=by simp;omega
 have d8:((43:Int) == (c:Int))=false:=by simp;omega
 have s0:((⟨#[123,125,59,61,43]⟩:ByteArray)[0]'(by decide)).toNat=123:=rfl
 have s1:((⟨#[123,125,59,61,43]⟩:ByteArray)[1]'(by decide)).toNat=125:=rfl
 have s2:((⟨#[123,125,59,61,43]⟩:ByteArray)[2]'(by decide)).toNat=59:=rfl
 have s3:((⟨#[123,125,59,61,43]⟩:ByteArray)[3]'(by decide)).toNat=61:=rfl
 have s4:((⟨#[123,125,59,61,43]⟩:ByteArray)[4]'(by decide)).toNat=43:=rfl
 have HS:=kz (zdT c hcl)
 have HD:=kz (zcq c hcl)
 rw [h1] at HS
 rw [h2] at HD
 clear hv hb0 hgb h1 h2 n1 n2 n3 n4 n5 n6 n7 n8
 go_enter Tryz.func81,Tryz.ntmps81
 go_wp2_with fail
 have hst0:=zbq w a
 generalize (w.alloc (.cells (wz (.int .i64 0)) 123)).alloc (.cells (wz (.int .i64 a)) 123)=W0 at *
 have HST:=kz hst0
 clear hst0
 refine (oz HS _).mono ?_
 rintro e w1 ⟨rfl,rfl⟩
 go_wp2_with fail
 refine (oz HD _).mono ?_
 rintro e w1 ⟨rfl,rfl⟩
 have h2:=(oz HST)
 have r0:=h2.res.cell 0
 have r1:=h2.res.cell 1
 have r2:=h2.res.cell 2
 have r3:=h2.res.cell 3
 have r4:=h2.res.cell 4
 have r5:=h2.res.cell 5
 have rf0:=h2.res.frozen 0
 have rf1:=h2.res.frozen 1
 have rf2:=h2.res.frozen 2
 have rf3:=h2.res.frozen 3
 have rf4:=h2.res.frozen 4
 have rf5:=h2.res.frozen 5
 have g0:=h2.cur.cell 0
 have g1:=h2.cur.cell 1
 have g2:=h2.cur.cell 2
 have g3:=h2.cur.cell 3
 have g4:=h2.cur.cell 4
 have g5:=h2.cur.cell 5
 have hfin:=h2.fin (.int .i64 0) (.string ⟨#[]⟩) (.int .i32 0) (.int .i64 0) (.int .i64 a) (.int .i64 0)
 have HFIN:=kz hfin
 clear hfin h2
 go_wp2_with fail
 refine wp_loop_rounds 6 ?_
 iterate 6
   rw [rounds_succ]
   go_wp2_with fail
 have hfin:=oz HFIN
 have e0:=hfin.1.cell 0
 have e1:=hfin.1.cell 1
 have e2:=hfin.1.cell 2
 have e3:=hfin.1.cell 3
 have e4:=hfin.1.cell 4
 have e5:=hfin.1.cell 5
 have HB:=kz hfin.2
 exact bodyPost_ret (v := .tuple #[.agg (wz (.int .i64 a)),.int .i64 (a:Int),.bool false]) (by simp [results,Tryz.results81,go_sem,e0,e1,e2,e3,e4,e5]) rfl ⟨_,rfl,(fun q =>by cases q),⟨_,_,_,_,_,_,rfl⟩,oz HB⟩
theorem word_any (s:ByteArray) (hs:s.size≤1099511627776) (a:Nat) (ha:a < s.size) (w:World):Calls Tryz.prog 81 #[.string s,.int .i64 a] w fun e w' => ∃ V,e=.returned (.tuple #[V,.int .i64 ((a+(zac (rst s a)).n:Nat):Int),.bool (zac (rst s a)).ok])∧((zac (rst s a)).ok=true→V=zcs (zac (rst s a)) a)∧IsW V∧Below w.heap.size w w':=by
 cases h1:zaP (bt s a)
 ·cases h2:zcr (bt s a)
  ·by_cases q1:bt s a=85
   ·exact word_u s hs a ha q1 w
   by_cases q2:bt s a=39
   ·exact word_quo s hs a ha q2 w
   by_cases q3:bt s a=46
   ·exact word_dot s hs a ha q3 w
   by_cases q4:bt s a=123
   ·exact word_open s hs a ha q4 w
   by_cases q5:bt s a=125
   ·exact word_shut s hs a ha q5 w
   by_cases q6:bt s a=59
   ·exact word_semi s hs a ha q6 w
   by_cases q7:bt s a=61
   ·exact word_asg s hs a ha q7 w
   by_cases q8:bt s a=43
   ·exact word_plus s hs a ha q8 w
   exact zkW s hs a ha h1 h2 ⟨q1,q2,q3,q4,q5,q6,q7,q8⟩ w
  ·exact word_num s hs a ha h2 w
 ·exact word_name s hs a ha h1 w
theorem zj5 {c:Nat} (h:zaP c=true):c < 128:=by have:=ze4.1 h;omega
theorem zkK {c:Nat} (h:zcr c=true):c < 128:=by have:=zdC.1 h;omega
theorem stk_lt {c:Nat} (h:zdN c=true):c < 128:=by
 unfold zdN zcd zaP zcr at h
 simp at h
 omega
theorem zj1 (t:ByteArray) (k:Nat) (h:1≤t.size):bt (tl1 t) k=bt t (1+k):=by unfold tl1 bt;rw [zbN t 1 k h]
theorem zjL (t:ByteArray) (h:zej t=true):bt t 1=46:=by
 have h2:[46,46] <+: t.data.toList:=List.isPrefixOf_iff_prefix.1 h
 obtain ⟨r,hr⟩:=h2
 have hz:=zgl t h
 have:t.data.toList[1]?=some 46:=by rw [← hr];rfl
 have h1:1 < t.size:=by omega
 unfold bt
 rw [zcy t 1 h1]
 rw [Array.getElem?_toList,Array.getElem?_eq_getElem h1] at this
 have e:t.data[1]=46:=Option.some.inj this
 show (t.data[1]).toNat=46
 rw [e]
 rfl
theorem zhU (t:ByteArray) (h:0 < t.size) (ho:(zac t).ok=true):bt t ((zac t).n - 1) < 128:=by
 unfold zac at ho ⊢
 split at ho
 ·rename_i hs
  rw [if_pos hs]
  refine stk_lt (zdR ?_)
  have hn:zao t=za2 (fun n =>zcd (bt t n)) (min t.size 32) 1:=by unfold zao;rw [if_neg (fun q =>q.elim (by omega) (fun q =>by rw [hs] at q;cases q))]
  show zcd (bt t (zao t - 1))=true
  rw [hn]
  exact zc2 t (min t.size 32) 1 (by omega) (by omega) (by omega) (by show zcd (bt t 0)=true;unfold zcd;rw [hs];rfl)
 ·rename_i hs
  rw [if_neg hs]
  split at ho
  ·rename_i hd
   rw [if_pos hd]
   exact zkK (zix t h hd)
  ·rename_i hd
   rw [if_neg hd]
   split at ho
   ·rename_i hu
    rw [if_pos hu]
    have ho2:(zax t).2.2=true:=((Bool.and_eq_true _ _).mp ho).1
    show bt t ((zax t).2.1 - 1) < 128
    unfold zax at ho2 ⊢
    split at ho2
    ·cases ho2
    ·rename_i h1
     rw [if_neg h1]
     split at ho2
     ·cases ho2
     ·rename_i h6
      rw [if_neg h6]
      exact stk_lt (zhl (zeq t t.size 0 2 (by omega) (by omega) (fun q =>by omega) (by omega)))
   ·rename_i hu
    rw [if_neg hu]
    split at ho
    ·rename_i hq
     rw [if_pos hq]
     have ho2:(zcV t).2.2=true:=ho
     show bt t ((zcV t).2.1 - 1) < 128
     unfold zcV at ho2 ⊢
     repeat' split at ho2
     all_goals first | (cases ho2;done) | skip
     rename_i h1 h2 h3 h4 h5
     rw [if_neg h1,if_neg h2,if_neg h3,if_neg h4,if_pos h5]
     have:=(zll (tl1 t) (wd (tl1 t) 0)).1 h5
     rw [zj1 t _ h] at this
     show bt t (wd (tl1 t) 0+2 - 1) < 128
     rw [show wd (tl1 t) 0+2 - 1=1+wd (tl1 t) 0 by omega,this]
     decide
    ·rename_i hq
     rw [if_neg hq]
     have ho2:(zck t).2.2=true:=ho
     show bt t ((zck t).2.1 - 1) < 128
     unfold zck at ho2 ⊢
     repeat' split
     all_goals first
      | (show bt t 0 < 128;omega)
      | skip
     all_goals first
      | (rename_i hdt;show bt t 1 < 128;rw [zjL t hdt];decide)
      | (exfalso;simp_all;done)
theorem zgD (t:ByteArray) (ho:(zac t).ok=true):bt t 0 < 128:=by
 by_cases hs:zaP (bt t 0)=true
 ·exact zj5 hs
 ·by_cases hd:zcr (bt t 0)=true
  ·exact zkK hd
  ·unfold zac at ho
   rw [if_neg hs,if_neg hd] at ho
   split at ho
   ·omega
   ·split at ho
    ·omega
    ·have ho2:(zck t).2.2=true:=ho
     unfold zck at ho2
     repeat' split at ho2
     all_goals first | omega | cases ho2
theorem zhQ (s:ByteArray) (i:Nat) (h:bt s i < 128):bdB s i=true:=zgp s i (by omega)
theorem bd_next (s:ByteArray) (i:Nat) (hi:i < s.size) (h:bt s i < 128):bdB s (i+1)=true:=by
 have hw:wd s i=1:=by
  rcases Nat.lt_or_ge (wd s i) 2 with q | q
  ·have:=zbh s i;omega
  ·have:=zdv s _ q;omega
 have:=zfn s i (zhQ s i h) hi
 rwa [hw] at this
theorem zks (s:ByteArray) (b n:Nat) (hb:b+n≤s.size) (hd:bdB s b=true):lcB (rst s b) (zdI s b) n=zdI s (b+n):=by
 unfold lcB zdI
 have e:(rst s b).extract 0 n=s.extract b (b+n):=by
  unfold rst
  rw [ByteArray.extract_extract,Nat.add_zero,Nat.min_eq_left (by omega)]
 rw [e,lcF_all, ← lcR_on s b (b+n) (1,1) (by omega) hb (bd_pre s b (b+n) hd (by omega) hb)]
structure WdAt (s:ByteArray) (x:Wd):Prop where
 lc:(x.l,x.c)=whL s x.b
 lt:x.b < s.size
 e:x.e=x.b+x.v.n
 v:x.v=zac (rst s x.b)
 le:x.e≤s.size
theorem wdAt_mk {s:ByteArray} {b:Nat} {x:Nat × Nat} (h1:x=whL s b) (h2:b < s.size) (h3:b+(zac (rst s b)).n≤s.size):WdAt s ⟨zac (rst s b),b,x.1,x.2,b+(zac (rst s b)).n⟩:=by
 obtain ⟨x1,x2⟩:=x
 generalize hw:whL s b=y at h1
 subst h1
 generalize hv:zac (rst s b)=v at h3
 exact { lc:=hw.symm,lt:=h2,e:=rfl,v:=hv.symm,le:=h3 }
theorem zg4 (s:ByteArray):∀ f b x ws,b≤s.size→bdB s b=true→x=zdI s b→(∀ y ∈ ws,WdAt s y)→(∀ y ∈ (cutGo s f b x ws).ws,WdAt s y)∧(cutGo s f b x ws).b≤s.size
 | 0,b,x,ws,hb,_,_,h =>⟨h,hb⟩
 | f+1,b,x,ws,hb,hd,hx,h =>by
  have hg:=ziM s b hb
  unfold cutGo
  split
  ·exact ⟨h,hg.2⟩
  ·split
   ·exact ⟨h,hg.2⟩
   ·rename_i hz
    rw [zah] at hz
    have hp:0 < (rst s (gB s b)).size:=by rw [zah];omega
    have hle:=zb0 (rst s (gB s b)) hp
    rw [zah] at hle
    split
    ·exact ⟨h,by show gB s b+_≤_;omega⟩
    ·rename_i ho
     have ho2:(zac (rst s (gB s b))).ok=true:=Bool.eq_false_or_eq_true _ |>.resolve_right ho
     have hn:=hle.2 ho2
     have e0:bt (rst s (gB s b)) 0=bt s (gB s b):=zaK s (gB s b) 0 hg.2
     have hf:=zgD _ ho2
     rw [e0] at hf
     have hl:=zhU _ hp ho2
     rw [zaK s (gB s b) _ hg.2] at hl
     have hbg:bdB s (gB s b)=true:=zhQ s _ hf
     have hgl:gLC s b x=zdI s (gB s b):=by
      unfold gLC
      rw [hx,zks s b _ (by have:=hg.2;unfold gB at this;exact this) hd]
      rfl
     have hnx:bdB s (gB s b+(zac (rst s (gB s b))).n)=true:=by
      have:=bd_next s (gB s b+((zac (rst s (gB s b))).n - 1)) (by omega) hl
      rwa [show gB s b+((zac (rst s (gB s b))).n - 1)+1=gB s b+(zac (rst s (gB s b))).n by omega] at this
     refine zg4 s f _ _ _ (by omega) hnx (by rw [hgl,zks s _ _ (by omega) hbg]) (fun y hy =>?_)
     rcases List.mem_append.1 hy with hy | hy
     ·exact h y hy
     ·obtain rfl:=List.mem_singleton.1 hy
      exact wdAt_mk (hgl.trans (whL_bd s _ hbg).symm) (by omega) (by omega)
theorem zdO (s:ByteArray):(∀ y ∈ (zan s).ws,WdAt s y)∧(zan s).b≤s.size:=zg4 s _ 0 (1,1) [] (Nat.zero_le _) (zdG s) (zd1 s).symm (fun _ h =>by cases h)
def zga (x:Wd):List Value := [.int .i64 x.v.kind,.string x.v.S,.int .i32 x.v.R,.int .i64 x.v.N,.int .i64 x.b,.int .i64 x.e]
def encR (ws:List Wd):List Value:=ws.flatMap zga
theorem encR_snoc (ws:List Wd) (x:Wd):encR (ws++[x])=encR ws++zga x:=by simp [encR]
theorem infoRW:(Tryz.prog.info? 123).map (fun i =>(i.zero,i.size,i.bytes))=some (some (.agg #[.int .i64 0,.string ⟨#[]⟩,.int .i32 0,.int .i64 0,.int .i64 0,.int .i64 0]),6,56):=by kernel_rfl
theorem new_cells6 (W:World) (c0 c1 c2 c3 c4 c5:Value) (t:TypeId):∀ j u,[c0,c1,c2,c3,c4,c5][j]?=some u→(W.alloc (.cells #[c0,c1,c2,c3,c4,c5] t)).cell? ((⟨W.heap.size,0,none⟩:Addr).add j)=some u:=by
 intro j u hj
 have:=(Blk.new W #[c0,c1,c2,c3,c4,c5] t).cell j
 rw [show (⟨W.heap.size,0,none⟩:Addr).add j=⟨W.heap.size,j,none⟩ by unfold Addr.add;split <;> simp_all,this, ← hj]
 simp
theorem own_belowW {W W':World} {base e size n:Nat} {v:Value} {xs:List Value} (h:W.ownsRow base e size v n xs) (hb:Below W.heap.size W W'):W'.ownsRow base e size v n xs :=
 h.kept (row:=none) ⟨hb.os,hb.tape,hb.output,hb.size,fun j hj _ =>hb.block j hj⟩ (by cases v.ownBlock <;> simp)
structure RwSt (s:ByteArray) (f b:Nat) (x:Nat × Nat) (ws:List Wd):Prop where
 eq:zan s=cutGo s f b x ws
 fu:s.size < b+f
 le:b≤s.size
 len:ws.length≤b
theorem gapA_gB (s:ByteArray) (b:Nat):zcS s b=(gB s b,(zd2 (rst s b)).2):=rfl
theorem RwSt.bad {s:ByteArray} {f b:Nat} {x:Nat × Nat} {ws:List Wd} (h:RwSt s f b x ws) (hg:(zd2 (rst s b)).2=false):(zan s).ok=false∧(zan s).b=gB s b:=by
 obtain ⟨g,rfl⟩:∃ g,f=g+1:=⟨f - 1,by have:=h.fu;have:=h.le;omega⟩
 have e:=h.eq
 unfold cutGo at e
 rw [if_pos hg] at e
 rw [e]
 exact ⟨rfl,rfl⟩
theorem RwSt.done {s:ByteArray} {f b:Nat} {x:Nat × Nat} {ws:List Wd} (h:RwSt s f b x ws) (hg:(zd2 (rst s b)).2=true) (he:gB s b=s.size):(zan s).ok=true∧(zan s).ws=ws:=by
 obtain ⟨g,rfl⟩:∃ g,f=g+1:=⟨f - 1,by have:=h.fu;have:=h.le;omega⟩
 have e:=h.eq
 unfold cutGo at e
 rw [if_neg (by rw [hg];decide),if_pos (by rw [zah];omega)] at e
 rw [e]
 exact ⟨rfl,rfl⟩
theorem RwSt.no {s:ByteArray} {f b:Nat} {x:Nat × Nat} {ws:List Wd} (h:RwSt s f b x ws) (hg:(zd2 (rst s b)).2=true) (he:gB s b≠s.size) (ho:(zac (rst s (gB s b))).ok=false):(zan s).ok=false∧(zan s).b=gB s b+(zac (rst s (gB s b))).n:=by
 obtain ⟨g,rfl⟩:∃ g,f=g+1:=⟨f - 1,by have:=h.fu;have:=h.le;omega⟩
 have hb:=ziM s b h.le
 have e:=h.eq
 unfold cutGo at e
 rw [if_neg (by rw [hg];decide),if_neg (by rw [zah];omega),if_pos ho] at e
 rw [e]
 exact ⟨rfl,rfl⟩
theorem RwSt.yes {s:ByteArray} {f b:Nat} {x:Nat × Nat} {ws:List Wd} (h:RwSt s f b x ws) (hg:(zd2 (rst s b)).2=true) (he:gB s b≠s.size) (ho:(zac (rst s (gB s b))).ok=true) :
  ∃ f' x' y,RwSt s f' (gB s b+(zac (rst s (gB s b))).n) x' (ws++[y])∧zga y=[.int .i64 (zac (rst s (gB s b))).kind,.string (zac (rst s (gB s b))).S,.int .i32 (zac (rst s (gB s b))).R,.int .i64 (zac (rst s (gB s b))).N,.int .i64 (gB s b),.int .i64 ((gB s b+(zac (rst s (gB s b))).n:Nat):Int)]∧1≤(zac (rst s (gB s b))).n:=by
 obtain ⟨g,rfl⟩:∃ g,f=g+1:=⟨f - 1,by have:=h.fu;have:=h.le;omega⟩
 have hb:=ziM s b h.le
 have e:=h.eq
 unfold cutGo at e
 rw [if_neg (by rw [hg];decide),if_neg (by rw [zah];omega),if_neg (by rw [ho];decide)] at e
 have hp:0 < (rst s (gB s b)).size:=by rw [zah];omega
 have hle:=zb0 (rst s (gB s b)) hp
 rw [zah] at hle
 have h1:=hle.2 ho
 have h2:=h.fu
 have h3:=h.len
 exact ⟨g,_,_,⟨e,by omega,by omega,by rw [List.length_append,List.length_singleton];omega⟩,rfl,h1⟩
theorem rw_step {w w1 w2:World} {v v':Value} {ws:List Wd} {y:Wd} {c0 c1 c2 c3 c4 c5:Value} (hrc:zga y=[c0,c1,c2,c3,c4,c5])
  (hown:w1.ownsRow w.heap.size 123 6 v ws.length (encR ws)) (hB:Below w.heap.size w w1)
  (hown':w2.ownsRow w.heap.size 123 6 v' (ws.length+1) (encR ws++[c0,c1,c2,c3,c4,c5]))
  (hgrow:((w1.alloc (.cells #[c0,c1,c2,c3,c4,c5] 123)).alloc (.cells #[c0,c1,c2,c3,c4,c5] 123)).grownBy w2 v.ownBlock) :
  w2.ownsRow w.heap.size 123 6 v' (ws++[y]).length (encR (ws++[y]))∧Below w.heap.size w w2:=by
 have hl:=own_lt hown
 refine ⟨?_, ?_⟩
 ·rw [encR_snoc,List.length_append,hrc];exact hown'
 ·exact ((hB.alloc hB.size _).alloc (by have:=hB.size;simp;omega) _).grown hgrow (by have:=hB.size;simp;omega) (fun k hk =>(hl k hk).1)
def rwsPost (s:ByteArray) (w:World) (e:Ending) (w':World):Prop :=
 ((zan s).ok=true→∃ v,e=.returned (.tuple #[v,.int .i64 (-1),.int .i64 0])∧w'.ownsRow w.heap.size 123 6 v (zan s).ws.length (encR (zan s).ws)) ∧
 ((zan s).ok=false→e=.returned (.tuple #[.slice none 0 0,.int .i64 (zan s).b,.int .i64 (if (zan s).b < s.size then 20 else 21)]))∧Below w.heap.size w w'
theorem zd9 {s:ByteArray} {w w':World} {n:Nat} (h:(zan s).ok=false∧(zan s).b=n) (c:Int) (hc:c=if n < s.size then 20 else 21) (hb:Below w.heap.size w w'):rwsPost s w (.returned (.tuple #[.slice none 0 0,.int .i64 n,.int .i64 c])) w' :=
 ⟨(fun q =>by rw [h.1] at q;cases q),(fun _ =>by rw [h.2,hc]),hb⟩
set_option maxRecDepth 100000 in
set_option maxHeartbeats 8000000 in
theorem zc1 (s:ByteArray) (hs:s.size≤262144) (w:World):Calls Tryz.prog 45 #[.string s] w fun e w' =>rwsPost s w e w':=by
 obtain ⟨i0,hi,hz0,hz1,hz2⟩:=info_parts infoRW
 have HI:=kz hi
 have HZ0:=kz hz0
 have HZ1:=kz hz1
 have HZ2:=kz hz2
 clear hi hz0 hz1 hz2
 have hl:¬ (262144:Int) < (s.size:Int):=by omega
 have HS1:=kz (show s.size≤1099511627776 by omega)
 go_enter Tryz.func45,Tryz.ntmps45
 go_wp2_with fail
 go_loopw [5,6,7,8,9,10,11] (fun v i _ _ _ _ _ wr => ∃ (f b:Nat) (x:Nat × Nat) (ws:List Wd),Hz (RwSt s f b x ws)∧b≤s.size∧i=.int .i64 b∧Hz (wr.ownsRow w.heap.size 123 6 v ws.length (encR ws))∧Hz (Below w.heap.size w wr))
  (fun _ i _ _ _ _ _ _ =>s.size - (intOf i).toNat)
 case atStart =>exact ⟨s.size+1,0,(1,1),[],kz ⟨rfl,by omega,by omega,by simp⟩,by omega,rfl,kz (World.ownsRow_nil _ _ _ _),kz (Below.refl _ _)⟩
 case round =>
  obtain ⟨f,b,x,ws,HR,hb,rfl,HOWN,HB⟩:=hrel
  have hgb:=ziM s b hb
  have hbl:=blank_any s (oz HS1) b hb
  rw [gapA_gB] at hbl
  have hno:=fun h =>(oz HR).bad h
  have hdo:=fun h1 h2 =>(oz HR).done h1 h2
  have hwn:=fun h1 h2 h3 =>(oz HR).no h1 h2 h3
  have hwy:=fun h1 h2 h3 =>(oz HR).yes h1 h2 h3
  have hwd:=fun (h:gB s b < s.size) =>word_any s (oz HS1) (gB s b) h
  have hwle:=fun (h:gB s b < s.size) =>zb0 (rst s (gB s b)) (by rw [zah];omega)
  rw [zah] at hwle
  have hlen:ws.length≤262144:=by have:=(oz HR).len;omega
  generalize (zd2 (rst s b)).2=o at *
  generalize gB s b=g at *
  generalize zac (rst s g)=V at *
  cases o
  ·have HNO:=kz (hno rfl)
   have HBL:=kz hbl
   clear hno hdo hwn hwy hwd hwle hbl
   by_cases he:g=s.size
   ·have he':((g:Int) == (s.size:Int))=true:=by simp;omega
    have HC:=kz (show (21:Int)=if g < s.size then 20 else 21 by rw [if_neg (by omega)])
    clear he
    go_wp2_with fail
    refine (oz HBL _).mono ?_
    rintro e w1 ⟨rfl,rfl⟩
    go_wp2_with fail
    exact bodyPost_ret (v := .tuple #[.slice none 0 0,.int .i64 g,.int .i64 21]) (by simp [results,Tryz.results45,go_sem]) rfl (zd9 (oz HNO) 21 (oz HC) (oz HB))
   ·have he':((g:Int) == (s.size:Int))=false:=by simp;omega
    have HC:=kz (show (20:Int)=if g < s.size then 20 else 21 by rw [if_pos (by omega)])
    clear he
    go_wp2_with fail
    refine (oz HBL _).mono ?_
    rintro e w1 ⟨rfl,rfl⟩
    go_wp2_with fail
    exact bodyPost_ret (v := .tuple #[.slice none 0 0,.int .i64 g,.int .i64 20]) (by simp [results,Tryz.results45,go_sem]) rfl (zd9 (oz HNO) 20 (oz HC) (oz HB))
  ·have HBL:=kz hbl
   clear hno hbl
   by_cases he:g=s.size
   ·have he':((g:Int) == (s.size:Int))=true:=by simp;omega
    have HDO:=kz (hdo rfl he)
    clear he hdo hwn hwy hwd hwle
    go_wp2_with fail
    refine (oz HBL _).mono ?_
    rintro e w1 ⟨rfl,rfl⟩
    go_wp2_with fail
    exact bodyPost_ret (v := .tuple #[u5,.int .i64 (-1),.int .i64 0]) (by simp [results,Tryz.results45,go_sem]) rfl ⟨fun _ =>⟨_,rfl,by rw [(oz HDO).2];exact oz HOWN⟩,(fun q =>by rw [(oz HDO).1] at q;cases q),oz HB⟩
   ·have he':((g:Int) == (s.size:Int))=false:=by simp;omega
    have hlt:g < s.size:=by omega
    have hle:=hwle hlt
    have hwc:=hwd hlt
    have hn:=hwn rfl he
    have hy:=hwy rfl he
    clear hdo hwn hwy hwd hwle he
    obtain ⟨K,S,R,N,n,o⟩:=V
    have hle1:g+n≤s.size:=by have:n≤s.size - g:=hle.1;omega
    obtain ⟨q,hq⟩:∃ q,q=g+n:=⟨_,rfl⟩
    have HWC:Hz (∀ w,Calls Tryz.prog 81 #[.string s,.int .i64 g] w fun e w' => ∃ X,e=.returned (.tuple #[X,.int .i64 (q:Int),.bool o])∧(o=true→X=.agg #[.int .i64 K,.string S,.int .i32 R,.int .i64 N,.int .i64 g,.int .i64 (q:Int)])∧IsW X∧Below w.heap.size w w'):=kz (by intro w;rw [hq];exact hwc w)
    have hn':o=false→(zan s).ok=false∧(zan s).b=q:=by rw [hq];exact hn
    have hy':o=true→∃ f' x' y,RwSt s f' q x' (ws++[y])∧zga y=[.int .i64 K,.string S,.int .i32 R,.int .i64 N,.int .i64 g,.int .i64 (q:Int)]∧b < q:=by
     intro h
     obtain ⟨f',x',y,h1,h2,h3⟩:=hy h
     refine ⟨f',x',y,by rw [hq];exact h1,by rw [hq];exact h2, ?_⟩
     have:1≤n:=h3
     omega
    rw [← hq] at hle1
    clear hwc hn hy hle hq
    cases o
    ·have HNO:=kz (hn' rfl)
     clear hn' hy'
     by_cases he2:q=s.size
     ·have he3:((q:Int) == (s.size:Int))=true:=by simp;omega
      have HC:=kz (show (21:Int)=if q < s.size then 20 else 21 by rw [if_neg (by omega)])
      clear he2
      go_wp2_with fail
      refine (oz HBL _).mono ?_
      rintro e w1 ⟨rfl,rfl⟩
      go_wp2_with fail
      refine (oz HWC _).mono ?_
      rintro e w2 ⟨X,rfl,_,⟨z0,z1,z2,z3,z4,z5,rfl⟩,hb2⟩
      have HB2:=kz ((oz HB).trans (hb2.mono (oz HB).size))
      clear hb2
      go_wp2_with fail
      exact bodyPost_ret (v := .tuple #[.slice none 0 0,.int .i64 (q:Int),.int .i64 21]) (by simp [results,Tryz.results45,go_sem]) rfl (zd9 (oz HNO) 21 (oz HC) ((oz HB2).alloc (oz HB2).size _))
     ·have he3:((q:Int) == (s.size:Int))=false:=by simp;omega
      have HC:=kz (show (20:Int)=if q < s.size then 20 else 21 by rw [if_pos (by omega)])
      clear he2
      go_wp2_with fail
      refine (oz HBL _).mono ?_
      rintro e w1 ⟨rfl,rfl⟩
      go_wp2_with fail
      refine (oz HWC _).mono ?_
      rintro e w2 ⟨X,rfl,_,⟨z0,z1,z2,z3,z4,z5,rfl⟩,hb2⟩
      have HB2:=kz ((oz HB).trans (hb2.mono (oz HB).size))
      clear hb2
      go_wp2_with fail
      exact bodyPost_ret (v := .tuple #[.slice none 0 0,.int .i64 (q:Int),.int .i64 20]) (by simp [results,Tryz.results45,go_sem]) rfl (zd9 (oz HNO) 20 (oz HC) ((oz HB2).alloc (oz HB2).size _))
    ·obtain ⟨f',x',y,hr',hrc,hn1⟩:=hy' rfl
     have HR2:=kz hr'
     have HRC:=kz hrc
     have HN1:=kz hn1
     clear hy' hn' hr' hrc hn1
     go_wp2_with fail
     refine (oz HBL _).mono ?_
     rintro e w1 ⟨rfl,rfl⟩
     go_wp2_with fail
     refine (oz HWC _).mono ?_
     rintro e w2 ⟨X,rfl,hX,_,hb2⟩
     obtain rfl:=hX trivial
     have hB2:=(oz HB).trans (hb2.mono (oz HB).size)
     have hO2:=own_belowW (oz HOWN) hb2
     have HB2:=kz hB2
     have HO2:=kz hO2
     have HLN:=kz (new_cells6 (w2.alloc (.cells #[.int .i64 K,.string S,.int .i32 R,.int .i64 N,.int .i64 g,.int .i64 (q:Int)] 123)) (.int .i64 K) (.string S) (.int .i32 R) (.int .i64 N) (.int .i64 g) (.int .i64 (q:Int)) 123)
     clear hb2 hB2 hO2
     go_wp2_with (at_builtin;refine wpList_append_own _ rfl _ _ 116 rfl w.heap.size 123 i0 (.agg #[.int .i64 0,.string ⟨#[]⟩,.int .i32 0,.int .i64 0,.int .i64 0,.int .i64 0]) 6 56 Tryz.underlying116 (oz HI) (oz HZ0) (oz HZ1) (oz HZ2) rfl (by decide) _ _ _ rfl (((oz HO2).alloc _).alloc _) ⟨w2.heap.size+1,0,none⟩ 1 1 [.int .i64 K,.string S,.int .i32 R,.int .i64 N,.int .i64 g,.int .i64 (q:Int)] rfl rfl ?c1 ?c2 ?c3 ?c4 ?c5 ?_)
     case c1 =>have:=oz HLN;simpa using this
     case c2 =>intro u hu;simp at hu;rcases hu with rfl | rfl | rfl | rfl | rfl | rfl <;> rfl
     case c3 =>unfold maxLen;omega
     case c4 =>omega
     case c5 =>have:=(oz HB2).size;simp;omega
     intro v' w3 hown' hgrow _
     obtain ⟨hown3,hB3⟩:=rw_step (oz HRC) (oz HO2) (oz HB2) hown' hgrow
     have HO3:=kz hown3
     have HB3:=kz hB3
     clear hown' hgrow HLN hown3 hB3 HO2 HB2
     go_wp2_with fail
     go_roundw
     case rel =>exact ⟨f',q,x',ws++[y],HR2,hle1,rfl,HO3,HB3⟩
     case measure =>have:=oz HN1;simp [intOf];omega
end Go.Proofs.YtmdgejgokoadlaaGreatDoor
