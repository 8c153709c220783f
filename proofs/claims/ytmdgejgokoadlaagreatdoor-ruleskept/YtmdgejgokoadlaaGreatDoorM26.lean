/- Texts of this claim, one behind the other. -/
import Derived.Test.YtmdgejgokoadlaaGreatDoorM25
/- The reference's blank. -/
namespace Go.Proofs.YtmdgejgokoadlaaGreatDoor
open Go.RowKit Go.Shelf
set_option linter.unusedVariables false
def blA (s:ByteArray) (r:Bool) (p:Nat):Nat × Bool:=if r=true then zj9 s p else zcS s p
theorem blA_end (s:ByteArray) (r:Bool) (p:Nat) (h:p=s.size):blA s r p=(p,true):=by
 unfold blA
 split
 ·exact remA_end s p h
 ·exact zkA s p (by omega) (by omega)
theorem zgH (s:ByteArray) (p:Nat) (h:p < s.size):(zbe s p=true∧zbD (rst s p)=(0,zaZ (rst s p),false))∨(zbe s p=false∧zbD (rst s p)=(rn s p,wd s p,true)):=by
 have hd:Utf8.decode (rst s p) 0=Utf8.decode s p:=zbO s p 0 (by omega)
 have hb:zbe (rst s p) 0=zbe s p:=by unfold zbe;simp only [rn,wd,hd]
 have hz:=zah s p
 cases q:zbe s p with
 | true =>exact .inl ⟨rfl,by unfold zbD;rw [if_neg (by omega),hb,q,if_pos rfl]⟩
 | false =>exact .inr ⟨rfl,by unfold zbD;rw [if_neg (by omega),hb,q,if_neg (by decide)];simp only [rn,wd,hd]⟩
theorem zjT (s:ByteArray) (p:Nat) (h:p < s.size) (r n:Nat) (hv:zbD (rst s p)=(r,n,false)):blA s true p=(p+n,false):=by
 rcases zgH s p h with ⟨h1,h2⟩ | ⟨h1,h2⟩
 ·rw [hv,Prod.mk.injEq,Prod.mk.injEq] at h2
  unfold blA
  rw [if_pos rfl,remA_bad s p h h1,h2.2.1]
 ·rw [hv,Prod.mk.injEq,Prod.mk.injEq] at h2
  cases h2.2.2
theorem blA_seq_ok (s:ByteArray) (p:Nat) (h:p < s.size) (r n:Nat) (hv:zbD (rst s p)=(r,n,true)):1≤n∧p+n≤s.size∧blA s true p=blA s (!decide (bt s p=10)) (p+n):=by
 rcases zgH s p h with ⟨h1,h2⟩ | ⟨h1,h2⟩
 ·rw [hv,Prod.mk.injEq,Prod.mk.injEq] at h2
  cases h2.2.2
 ·rw [hv,Prod.mk.injEq,Prod.mk.injEq] at h2
  have hn:n=wd s p:=h2.2.1
  have hr:=zbC s p h
  have hp:=zbh s p
  refine ⟨by omega,by omega, ?_⟩
  unfold blA
  rw [if_pos rfl,hn]
  by_cases e:bt s p=10
  ·have hw:wd s p=1:=by
    rcases Nat.lt_or_ge (wd s p) 2 with q | q
    ·omega
    ·have:=zdv s p q;omega
   rw [decide_eq_true e,hw,if_neg (by decide)]
   exact remA_nl s p h e
  ·rw [decide_eq_false e,if_pos (by decide)]
   exact zin s p h e h1
set_option maxRecDepth 100000 in
set_option maxHeartbeats 8000000 in
theorem blank_any (s:ByteArray) (hs:s.size≤1099511627776) (a:Nat) (ha:a≤s.size) (w:World):Calls Tryz.prog 80 #[.string s,.int .i64 a] w fun e w' =>e=.returned (.tuple #[.int .i64 (zcS s a).1,.bool (zcS s a).2])∧w'=w:=by
 obtain ⟨q,o,hq⟩:∃ q o,zcS s a=(q,o):=⟨_,_,rfl⟩
 rw [hq]
 have HQ:=kz hq
 clear hq
 go_enter Tryz.func80,Tryz.ntmps80
 go_wp2_with fail
 go_loop [1,6,7,8,9] (fun x r _ _ _ => ∃ (p:Nat) (b:Bool),p≤s.size∧x=.int .i64 p∧r=.bool b∧Hz (blA s b p=(q,o))) (fun x _ _ _ _ =>s.size - (intOf x).toNat)
 case atStart =>exact ⟨a,false,ha,rfl,rfl,kz (by unfold blA;rw [if_neg (by decide)];exact oz HQ)⟩
 case round =>
  obtain ⟨p,b,hp,rfl,rfl,HB⟩:=hrel
  by_cases hps:p < s.size
  ·have hps':(p:Int) < (s.size:Int):=by omega
   have hgb:=zaz s p hps
   obtain ⟨c,ec⟩:∃ c,(s[p]'hps).toNat=c:=⟨_,rfl⟩
   rw [ec] at hgb
   cases b
   ·have hcase:(c=9∨c=10∨c=13∨c=32)∨c=35∨(c≠9∧c≠10∧c≠13∧c≠32∧c≠35):=by omega
    rcases hcase with hc | hc | hc
    ·have HN:Hz (blA s false (p+1)=(q,o)):=kz (by
      have:=oz HB
      unfold blA at this ⊢
      rw [if_neg (by decide)] at this ⊢
      rw [← zgW s p hps (by rw [hgb];unfold zca;exact decide_eq_true hc)]
      exact this)
     clear hgb HB HQ
     rcases hc with rfl | rfl | rfl | rfl
     all_goals
      go_wp2_with fail
      go_round
      case rel =>exact ⟨p+1,false,by omega,by go_num,rfl,HN⟩
      case measure =>simp [intOf];omega
    ·have HN:Hz (blA s true (p+1)=(q,o)):=kz (by
      have:=oz HB
      unfold blA at this ⊢
      rw [if_neg (by decide)] at this
      rw [if_pos rfl, ← gapA_rem s p hps (by rw [hgb];exact hc)]
      exact this)
     clear hgb HB HQ
     subst hc
     go_wp2_with fail
     go_round
     case rel =>exact ⟨p+1,true,by omega,by go_num,rfl,HN⟩
     case measure =>simp [intOf];omega
    ·have hq:(p,true)=(q,o):=by
      have:=oz HB
      unfold blA at this
      rw [if_neg (by decide),gapA_stop s p hps (by rw [hgb];unfold zca;exact decide_eq_false (by omega)) (by rw [hgb];exact hc.2.2.2.2)] at this
      exact this
     obtain ⟨rfl,rfl⟩:=Prod.mk.inj hq
     obtain ⟨c1,c2,c3,c4,c5⟩:=hc
     have d1:((c:Int) != 9)=true:=by simp;omega
     have d2:((c:Int) != 10)=true:=by simp;omega
     have d3:((c:Int) != 13)=true:=by simp;omega
     have d4:((c:Int) != 32)=true:=by simp;omega
     have d5:((c:Int) != 35)=true:=by simp;omega
     clear hgb HB HQ hq c1 c2 c3 c4 c5
     go_wp2_with fail
     go_ret2
     exact ⟨rfl,rfl⟩
   ·obtain ⟨r,n,ok,hv⟩:∃ r n ok,zbD (rst s p)=(r,n,ok):=⟨_,_,_,rfl⟩
    have HSQ:=kz (zcY s hs p (by omega))
    rw [hv] at HSQ
    cases ok
    ·have hq:=zjT s p hps r n hv
     rw [oz HB] at hq
     obtain ⟨rfl,rfl⟩:=Prod.mk.inj hq
     clear hgb HB HQ hq hv
     go_wp2_with fail
     refine (oz HSQ _).mono ?_
     rintro e w1 ⟨rfl,rfl⟩
     go_wp2_with fail
     go_ret2
     exact ⟨rfl,rfl⟩
    ·obtain ⟨hn1,hn2,hn3⟩:=blA_seq_ok s p hps r n hv
     rw [oz HB,hgb] at hn3
     have hnb:(p:Int)+(n:Int)≤(s.size:Int):=by omega
     by_cases h10:c=10
     ·rw [decide_eq_true h10] at hn3
      have HN:Hz (blA s false (p+n)=(q,o)):=kz hn3.symm
      subst h10
      clear hgb HB HQ hn3 hv
      go_wp2_with fail
      refine (oz HSQ _).mono ?_
      rintro e w1 ⟨rfl,rfl⟩
      go_wp2_with fail
      go_round
      case rel =>exact ⟨p+n,false,by omega,by go_num,rfl,HN⟩
      case measure =>simp [intOf];omega
     ·rw [decide_eq_false h10] at hn3
      have HN:Hz (blA s true (p+n)=(q,o)):=kz hn3.symm
      have d2:((c:Int) != 10)=true:=by simp;omega
      clear hgb HB HQ hn3 hv h10
      go_wp2_with fail
      refine (oz HSQ _).mono ?_
      rintro e w1 ⟨rfl,rfl⟩
      go_wp2_with fail
      go_round
      case rel =>exact ⟨p+n,true,by omega,by go_num,rfl,HN⟩
      case measure =>simp [intOf];omega
  ·have hps':¬ (p:Int) < (s.size:Int):=by omega
   have hq:=blA_end s b p (by omega)
   rw [oz HB] at hq
   obtain ⟨rfl,rfl⟩:=Prod.mk.inj hq
   clear HB HQ hq
   go_wp2_with fail
   go_ret2
   exact ⟨rfl,rfl⟩
theorem zdT (c:Nat) (hc:c < 256) (w:World):Calls Tryz.prog 126 #[.int .u8 c] w fun e w' =>e=.returned (.bool (zaP c))∧w'=w:=by
 by_cases h1:97≤c
 ·by_cases h2:c≤122
  ·rw [show zaP c=true from decide_eq_true ⟨h1,h2⟩]
   go_enter Tryz.func126,Tryz.ntmps126
   go_wp2
   go_ret
   exact ⟨by first | rfl | (simp;omega),rfl⟩
  ·rw [show zaP c=false from decide_eq_false (by omega)]
   go_enter Tryz.func126,Tryz.ntmps126
   go_wp2
   go_ret
   exact ⟨by first | rfl | (simp;omega),rfl⟩
 ·rw [show zaP c=false from decide_eq_false (by omega)]
  go_enter Tryz.func126,Tryz.ntmps126
  go_wp2
  go_ret
  exact ⟨by first | rfl | (simp;omega),rfl⟩
theorem zcq (c:Nat) (hc:c < 256) (w:World):Calls Tryz.prog 127 #[.int .u8 c] w fun e w' =>e=.returned (.bool (zcr c))∧w'=w:=by
 by_cases h1:48≤c
 ·by_cases h2:c≤57
  ·rw [show zcr c=true from decide_eq_true ⟨h1,h2⟩]
   go_enter Tryz.func127,Tryz.ntmps127
   go_wp2
   go_ret
   exact ⟨by first | rfl | (simp;omega),rfl⟩
  ·rw [show zcr c=false from decide_eq_false (by omega)]
   go_enter Tryz.func127,Tryz.ntmps127
   go_wp2
   go_ret
   exact ⟨by first | rfl | (simp;omega),rfl⟩
 ·rw [show zcr c=false from decide_eq_false (by omega)]
  go_enter Tryz.func127,Tryz.ntmps127
  go_wp2
  go_ret
  exact ⟨by first | rfl | (simp;omega),rfl⟩
def hexB (c:Nat):Bool:=zcr c || decide (65≤c∧c≤70)
theorem zkx (c:Nat):hexB c=true ↔ 0≤zbM c:=by
 unfold hexB zcr zbM
 simp only [Bool.or_eq_true,decide_eq_true_eq]
 constructor
 ·intro h;split <;> (try split) <;> omega
 ·intro h;split at h <;> (try split at h) <;> omega
theorem hex_ref (c:Nat) (hc:c < 256) (w:World):Calls Tryz.prog 156 #[.int .u8 c] w fun e w' =>e=.returned (.bool (hexB c))∧w'=w:=by
 have HD:=kz (zcq c hc)
 unfold hexB
 cases hd:zcr c
 ·rw [hd] at HD
  by_cases h1:65≤c
  ·by_cases h2:c≤70
   ·rw [decide_eq_true ⟨h1,h2⟩]
    go_enter Tryz.func156,Tryz.ntmps156
    go_wp2_with fail
    refine (oz HD _).mono ?_
    rintro e w1 ⟨rfl,rfl⟩
    go_wp2
    go_ret
    exact ⟨by first | rfl | (simp;omega),rfl⟩
   ·rw [decide_eq_false (by omega)]
    go_enter Tryz.func156,Tryz.ntmps156
    go_wp2_with fail
    refine (oz HD _).mono ?_
    rintro e w1 ⟨rfl,rfl⟩
    go_wp2
    go_ret
    exact ⟨by first | rfl | (simp;omega),rfl⟩
  ·rw [decide_eq_false (by omega)]
   go_enter Tryz.func156,Tryz.ntmps156
   go_wp2_with fail
   refine (oz HD _).mono ?_
   rintro e w1 ⟨rfl,rfl⟩
   go_wp2
   go_ret
   exact ⟨by first | rfl | (simp;omega),rfl⟩
 ·rw [hd] at HD
  go_enter Tryz.func156,Tryz.ntmps156
  go_wp2_with fail
  refine (oz HD _).mono ?_
  rintro e w1 ⟨rfl,rfl⟩
  go_wp2
  go_ret
  exact ⟨by first | rfl | (simp;omega),rfl⟩
set_option maxRecDepth 100000 in
set_option maxHeartbeats 4000000 in
theorem zb8 (c:Nat) (hc:c < 256) (w:World):Calls Tryz.prog 131 #[.int .u8 c] w fun e w' =>e=.returned (.bool (zdN c))∧w'=w:=by
 have HS:=kz (zdT c hc)
 have HD:=kz (zcq c hc)
 have hv:zdN c=(zaP c || (zcr c || decide ((65≤c∧c≤90)∨c=45∨c=95))):=by
  unfold zdN zcd
  cases zaP c <;> cases zcr c <;> simp <;> (try omega)
  by_cases a:c=45 <;> by_cases b:65≤c∧c≤90 <;> by_cases d:c=95 <;> simp_all
 rw [hv]
 clear hv
 cases hs:zaP c
 ·rw [hs] at HS
  cases hd:zcr c
  ·rw [hd] at HD
   have hcase:(65≤c∧c≤90)∨(¬ 65≤c∧c=45)∨(65≤c∧¬ c≤90∧c=95)∨(¬ 65≤c∧c≠45)∨(65≤c∧¬ c≤90∧c≠95):=by omega
   have hR:∀ b:Bool,decide ((65≤c∧c≤90)∨c=45∨c=95)=b→(false || (false || decide ((65≤c∧c≤90)∨c=45∨c=95)))=b:=fun b h =>by simpa using h
   rcases hcase with ⟨h1,h2⟩ | ⟨h1,rfl⟩ | ⟨h1,h2,rfl⟩ | ⟨h1,h2⟩ | ⟨h1,h2,h3⟩
   ·rw [hR true (decide_eq_true (.inl ⟨h1,h2⟩))]
    clear hR
    go_enter Tryz.func131,Tryz.ntmps131
    go_wp2_with fail
    refine (oz HS _).mono ?_
    rintro e w1 ⟨rfl,rfl⟩
    go_wp2_with fail
    refine (oz HD _).mono ?_
    rintro e w1 ⟨rfl,rfl⟩
    go_wp2
    go_ret
    exact ⟨by first | rfl | (simp;omega),rfl⟩
   ·rw [hR true (by decide)]
    clear hR
    go_enter Tryz.func131,Tryz.ntmps131
    go_wp2_with fail
    refine (oz HS _).mono ?_
    rintro e w1 ⟨rfl,rfl⟩
    go_wp2_with fail
    refine (oz HD _).mono ?_
    rintro e w1 ⟨rfl,rfl⟩
    go_wp2
    go_ret
    exact ⟨by first | rfl | (simp;omega),rfl⟩
   ·rw [hR true (by decide)]
    clear hR
    go_enter Tryz.func131,Tryz.ntmps131
    go_wp2_with fail
    refine (oz HS _).mono ?_
    rintro e w1 ⟨rfl,rfl⟩
    go_wp2_with fail
    refine (oz HD _).mono ?_
    rintro e w1 ⟨rfl,rfl⟩
    go_wp2
    go_ret
    exact ⟨by first | rfl | (simp;omega),rfl⟩
   ·rw [hR false (decide_eq_false (by omega))]
    have d1:((c:Int) == 45)=false:=by simp;omega
    have d2:((c:Int) == 95)=false:=by simp;omega
    clear hR h2
    go_enter Tryz.func131,Tryz.ntmps131
    go_wp2_with fail
    refine (oz HS _).mono ?_
    rintro e w1 ⟨rfl,rfl⟩
    go_wp2_with fail
    refine (oz HD _).mono ?_
    rintro e w1 ⟨rfl,rfl⟩
    go_wp2
    go_ret
    exact ⟨by first | rfl | (simp;omega),rfl⟩
   ·rw [hR false (decide_eq_false (by omega))]
    have d1:((c:Int) == 45)=false:=by simp;omega
    have d2:((c:Int) == 95)=false:=by simp;omega
    clear hR h3
    go_enter Tryz.func131,Tryz.ntmps131
    go_wp2_with fail
    refine (oz HS _).mono ?_
    rintro e w1 ⟨rfl,rfl⟩
    go_wp2_with fail
    refine (oz HD _).mono ?_
    rintro e w1 ⟨rfl,rfl⟩
    go_wp2
    go_ret
    exact ⟨by first | rfl | (simp;omega),rfl⟩
  ·rw [hd] at HD
   go_enter Tryz.func131,Tryz.ntmps131
   go_wp2_with fail
   refine (oz HS _).mono ?_
   rintro e w1 ⟨rfl,rfl⟩
   go_wp2_with fail
   refine (oz HD _).mono ?_
   rintro e w1 ⟨rfl,rfl⟩
   go_wp2
   go_ret
   exact ⟨by first | rfl | (simp;omega),rfl⟩
 ·rw [hs] at HS
  go_enter Tryz.func131,Tryz.ntmps131
  go_wp2_with fail
  refine (oz HS _).mono ?_
  rintro e w1 ⟨rfl,rfl⟩
  go_wp2
  go_ret
  exact ⟨by first | rfl | (simp;omega),rfl⟩
def zeM (s:ByteArray) (p:Nat):Bool := !(decide (p < s.size) && zcr (bt s p))
def NumSt (t:ByteArray) (v k:Nat):Prop:=(k=0∧v=0)∨(1≤k∧zcH t=zcW t v k)
set_option maxRecDepth 100000 in
set_option maxHeartbeats 8000000 in
theorem number_ref (s:ByteArray) (hs:s.size≤1099511627776) (a:Nat) (ha:a < s.size) (hd:zcr (bt s a)=true) (w:World):Calls Tryz.prog 128 #[.string s,.int .i64 a] w fun e w' =>e=.returned (.tuple #[.int .i64 (if zeM s (a+(zcH (rst s a)).2)=true then (zcH (rst s a)).1 else 0:Nat),.int .i64 ((a+(zcH (rst s a)).2:Nat):Int),.bool (zeM s (a+(zcH (rst s a)).2))])∧w'=w:=by
 have hrb:∀ k,bt (rst s a) k=bt s (a+k):=fun k =>zaK s a k (by omega)
 have hz:=zah s a
 obtain ⟨V,N,hV⟩:∃ V N,zcH (rst s a)=(V,N):=⟨_,_,rfl⟩
 have hini:zcH (rst s a)=zcW (rst s a) (bt s a - 48) 1:=by unfold zcH;rw [hrb 0];rfl
 have hend:∀ v k,1≤k→zcH (rst s a)=zcW (rst s a) v k→¬ (a+k < s.size∧zcr (bt s (a+k))=true∧0 < v∧v*10+(bt s (a+k) - 48)≤65535)→V=v∧N=k:=fun v k h1 h2 h3 =>by
  rw [hV,za5 (by rw [hrb];intro q;exact h3 ⟨by omega,q.2⟩),Prod.mk.injEq] at h2
  exact h2
 have hstep:∀ v k,1≤k→zcH (rst s a)=zcW (rst s a) v k→(a+k < s.size∧zcr (bt s (a+k))=true∧0 < v∧v*10+(bt s (a+k) - 48)≤65535)→zcH (rst s a)=zcW (rst s a) (v*10+(bt s (a+k) - 48)) (k+1):=fun v k h1 h2 h3 =>by
  rw [h2,zed (by omega) (by rw [hrb];exact h3.2.1) h3.2.2.1 (by rw [hrb];exact h3.2.2.2),hrb]
 rw [hV]
 obtain ⟨R,hR⟩:∃ R,R=Value.tuple #[.int .i64 (if zeM s (a+N)=true then V else 0:Nat),.int .i64 ((a+N:Nat):Int),.bool (zeM s (a+N))]:=⟨_,rfl⟩
 show Calls Tryz.prog 128 #[.string s,.int .i64 a] w fun e w' =>e=.returned (Value.tuple #[.int .i64 (if zeM s (a+N)=true then V else 0:Nat),.int .i64 ((a+N:Nat):Int),.bool (zeM s (a+N))])∧w'=w
 rw [← hR]
 have hok:∀ v k,V=v∧N=k→zeM s (a+k)=true→R=.tuple #[.int .i64 v,.int .i64 ((a+k:Nat):Int),.bool true]:=fun v k ⟨h1,h2⟩ h3 =>by rw [hR,h1,h2,h3,if_pos rfl]
 have hno:∀ v k,V=v∧N=k→zeM s (a+k)=false→R=.tuple #[.int .i64 0,.int .i64 ((a+k:Nat):Int),.bool false]:=fun v k ⟨h1,h2⟩ h3 =>by rw [hR,h2,h3,if_neg (by decide)];rfl
 have HOK:=kz hok
 have HNO:=kz hno
 have HV:=kz hV
 have HINI:=kz hini
 have HEND:=kz hend
 have HSTEP:=kz hstep
 have HD0:=kz hd
 clear hV hini hend hstep hrb hz hd hR hok hno
 go_enter Tryz.func128,Tryz.ntmps128
 go_wp2_with fail
 go_loop [1,7] (fun x n => ∃ p v k:Nat,p≤s.size∧a≤p∧v≤65535∧x=.int .i64 p∧n=.int .i64 v∧Hz (p=a+k)∧Hz (NumSt (rst s a) v k)) (fun x _ =>s.size - (intOf x).toNat)
 case atStart =>exact ⟨a,0,0,by omega,by omega,by omega,rfl,rfl,kz rfl,kz (.inl ⟨rfl,rfl⟩)⟩
 case round =>
  obtain ⟨p,v,k,hp,hap,hv,rfl,rfl,HPK,HS⟩:=hrel
  by_cases hps:p < s.size
  ·have hps':(p:Int) < (s.size:Int):=by omega
   have hgb:=zaz s p hps
   have hcl:=zaX s p
   obtain ⟨c,ec⟩:∃ c,(s[p]'hps).toNat=c:=⟨_,rfl⟩
   rw [hgb,ec] at hcl
   rw [ec] at hgb
   have HDG:=kz (zcq c hcl)
   cases hdc:zcr c
   ·rw [hdc] at HDG
    have hk1:1≤k∧zcH (rst s a)=zcW (rst s a) v k:=by
     rcases oz HS with h | h
     ·exfalso
      have:=oz HD0
      have e:=oz HPK
      rw [h.1,Nat.add_zero] at e
      rw [← e,hgb,hdc] at this
      cases this
     ·exact h
    have hq:=oz HEND v k hk1.1 hk1.2 (by rw [← oz HPK,hgb,hdc];exact fun q =>by cases q.2.1)
    have HF:=kz (oz HOK v k hq (by rw [← oz HPK];unfold zeM;rw [hgb,hdc];simp))
    rw [← oz HPK] at HF
    clear hgb hk1 hq hdc
    go_wp2_with fail
    refine (oz HDG _).mono ?_
    rintro e w1 ⟨rfl,rfl⟩
    go_wp2_with fail
    go_ret3
    exact ⟨by rw [oz HF];rfl,rfl⟩
   ·rw [hdc] at HDG
    have hc2:=zdC.1 hdc
    have hnd:zeM s p=false:=by unfold zeM;rw [hgb,hdc,decide_eq_true hps];rfl
    by_cases hk0:k=0
    ·have hv0:v=0:=by
      rcases oz HS with h | h
      ·exact h.2
      ·omega
     have hpa:p=a:=by have:=oz HPK;omega
     subst hv0
     subst hpa
     have HN:Hz (NumSt (rst s p) (c - 48) 1):=kz (.inr ⟨by omega,by rw [oz HINI,hgb]⟩)
     have hc3:((c - 48:Nat):Int)=(c:Int) - 48:=by omega
     have hc4:¬ (65535:Int) < (c:Int) - 48:=by omega
     clear hgb hnd HS hdc
     go_wp2_with fail
     refine (oz HDG _).mono ?_
     rintro e w1 ⟨rfl,rfl⟩
     go_wp2_with fail
     go_round
     case rel =>exact ⟨p+1,c - 48,1,by omega,by omega,by omega,by go_num,by rw [hc3],kz rfl,HN⟩
     case measure =>simp [intOf];omega
    ·have hk1:1≤k∧zcH (rst s a)=zcW (rst s a) v k:=by
      rcases oz HS with h | h
      ·omega
      ·exact h
     have hap':(a:Int) < (p:Int):=by have:=oz HPK;omega
     have hc3:((c - 48:Nat):Int)=(c:Int) - 48:=by omega
     by_cases hv0:v=0
     ·subst hv0
      have hq:=oz HEND 0 k hk1.1 hk1.2 (by omega)
      have HF:=kz (oz HNO 0 k hq (by rw [← oz HPK];exact hnd))
      rw [← oz HPK] at HF
      clear hgb hnd HS hdc hk1 hq
      go_wp2_with fail
      refine (oz HDG _).mono ?_
      rintro e w1 ⟨rfl,rfl⟩
      go_wp2_with fail
      go_ret3
      exact ⟨by rw [oz HF];rfl,rfl⟩
     ·have hv0':((v:Int) == 0)=false:=by simp;omega
      by_cases hbig:65535 < v*10+(c - 48)
      ·have hbig':(65535:Int) < (v:Int)*10+((c:Int) - 48):=by omega
       have hq:=oz HEND v k hk1.1 hk1.2 (by rw [← oz HPK,hgb];omega)
       have HF:=kz (oz HNO v k hq (by rw [← oz HPK];exact hnd))
       rw [← oz HPK] at HF
       clear hgb hnd HS hdc hk1 hq hbig hv0
       go_wp2_with fail
       refine (oz HDG _).mono ?_
       rintro e w1 ⟨rfl,rfl⟩
       go_wp2_with fail
       go_ret3
       exact ⟨by rw [oz HF];rfl,rfl⟩
      ·have hbig':¬ (65535:Int) < (v:Int)*10+((c:Int) - 48):=by omega
       have hq:=oz HSTEP v k hk1.1 hk1.2 (by rw [← oz HPK,hgb];exact ⟨hps,hdc,by omega,by omega⟩)
       rw [← oz HPK,hgb] at hq
       have HN:Hz (NumSt (rst s a) (v*10+(c - 48)) (k+1)):=kz (.inr ⟨by omega,hq⟩)
       have HPK2:Hz (p+1=a+(k+1)):=kz (by have:=oz HPK;omega)
       have hc5:((v*10+(c - 48):Nat):Int)=(v:Int)*10+((c:Int) - 48):=by omega
       have HC5:=kz hc5
       have hbd:v*10+(c - 48)≤65535:=by omega
       have HBD:=kz hbd
       clear hgb hnd HS hdc hk1 hq hbig hv0 hc5 hbd hc3
       go_wp2_with fail
       refine (oz HDG _).mono ?_
       rintro e w1 ⟨rfl,rfl⟩
       go_wp2_with fail
       go_round
       case rel =>exact ⟨p+1,v*10+(c - 48),k+1,by omega,by omega,oz HBD,by go_num,by rw [oz HC5],HPK2,HN⟩
       case measure =>simp [intOf];omega
  ·have hps':¬ (p:Int) < (s.size:Int):=by omega
   have hk1:1≤k∧zcH (rst s a)=zcW (rst s a) v k:=by
    rcases oz HS with h | h
    ·have e:=oz HPK;omega
    ·exact h
   have hq:=oz HEND v k hk1.1 hk1.2 (by rw [← oz HPK];omega)
   have HF:=kz (oz HOK v k hq (by rw [← oz HPK];unfold zeM;rw [decide_eq_false hps];rfl))
   rw [← oz HPK] at HF
   clear hk1 hq
   go_wp2_with fail
   go_ret3
   exact ⟨by rw [oz HF];rfl,rfl⟩
theorem zll (s:ByteArray) (i:Nat):rn s i=39 ↔ bt s i=39:=by
 have t:=zcj s i
 constructor
 ·intro h
  have hg:¬ (rn s i=65533∧wd s i=1):=by omega
  rcases t.width hg with h1 | h1 | h1 | h1
  ·rcases t.one h1.1 with h2 | h2 <;> (simp only [rn] at h;omega)
  all_goals (simp only [rn] at h;omega)
 ·intro h
  rcases Nat.lt_or_ge (wd s i) 2 with h1 | h1
  ·have:wd s i=1:=by have:=zbh s i;omega
   rcases t.one this with h2 | h2 <;> (simp only [rn];omega)
  ·have:=zdv s i h1;omega
theorem quo_cases (s:ByteArray) (a:Nat) (h:a < s.size):(∃ n,zbD (rst s (a+1))=(0,n,false)∧zcV (rst s a)=(0,1+n,false)) ∨
  (∃ r n,zbD (rst s (a+1))=(r,n,true)∧1≤n∧a+1+n≤s.size∧r≤1114111∧zcV (rst s a)=if r < 32∨r=39∨r=127 then (0,1,false) else if a+1+n < s.size∧bt s (a+1+n)=39 then (r,n+2,true) else (0,1+n,false)):=by
 have ht:tl1 (rst s a)=rst s (a+1):=zje s a 1 (by omega)
 have hz:=zah s a
 have hz1:=zah s (a+1)
 obtain ⟨u,hu⟩:∃ u,u=rst s (a+1):=⟨_,rfl⟩
 have hq:zcV (rst s a)=if u.size=0 then (0,(rst s a).size,false) else if rn u 0 < 32∨rn u 0=39∨rn u 0=127 then (0,1,false) else if zb1 u=false then (0,1+zaZ u,false) else if ¬ wd u 0 < u.size then (0,(rst s a).size,false) else if rn u (wd u 0)=39 then (rn u 0,wd u 0+2,true) else (0,1+wd u 0,false):=by unfold zcV;rw [ht,hu]
 rw [← hu] at hz1 ⊢
 by_cases h0:u.size=0
 ·left
  refine ⟨0,by unfold zbD;rw [if_pos h0], ?_⟩
  rw [hq,if_pos h0,show (rst s a).size=1+0 by omega]
 ·rw [if_neg h0] at hq
  cases hb:zbe u 0 with
  | true =>
   left
   have hr:=of_decide_eq_true hb
   refine ⟨zaZ u,by unfold zbD;rw [if_neg h0,hb,if_pos rfl], ?_⟩
   rw [hq,if_neg (by omega),if_pos (by unfold zb1;rw [hb];simp)]
  | false =>
   right
   have hr:=zbC u 0 (by omega)
   have hp:=zbh u 0
   have hs:=(zcj u 0).small
   refine ⟨rn u 0,wd u 0,by unfold zbD;rw [if_neg h0,hb,if_neg (by decide)],hp,by omega,hs, ?_⟩
   rw [hq]
   by_cases hl:rn u 0 < 32∨rn u 0=39∨rn u 0=127
   ·rw [if_pos hl,if_pos hl]
   ·rw [if_neg hl,if_neg hl,if_neg (by unfold zb1;rw [hb,decide_eq_true (by omega)];decide)]
    have hbt:bt u (wd u 0)=bt s (a+1+wd u 0):=by rw [hu];exact zaK s (a+1) _ (by omega)
    by_cases hw:wd u 0 < u.size
    ·rw [if_neg (fun q =>q hw)]
     by_cases h39:rn u (wd u 0)=39
     ·rw [if_pos h39,if_pos ⟨by omega,by rw [← hbt];exact (zll u _).1 h39⟩]
     ·rw [if_neg h39,if_neg (fun q =>h39 ((zll u _).2 (by rw [hbt];exact q.2)))]
    ·rw [if_pos hw,if_neg (by omega),show (rst s a).size=1+wd u 0 by omega]
set_option maxRecDepth 100000 in
set_option maxHeartbeats 8000000 in
theorem zlp (s:ByteArray) (hs:s.size≤1099511627776) (a:Nat) (ha:a < s.size) (w:World):Calls Tryz.prog 130 #[.string s,.int .i64 a] w fun e w' =>e=.returned (seqR4 a (zcV (rst s a)))∧w'=w:=by
 have hsq:=zcY s hs (a+1) (by omega)
 have hcast:((a+1:Nat):Int)=(a:Int)+1:=by omega
 rw [hcast] at hsq
 rcases quo_cases s a ha with ⟨n,hv,hq⟩ | ⟨r,n,hv,hn,hns,hr,hq⟩
 ·rw [hv] at hsq
  have hc2:((a+1+n:Nat):Int)=(a:Int)+(1+n:Nat):=by omega
  have HSQ:=kz hsq
  have HQ:=kz hq
  have HC:=kz hc2
  clear hsq hq hcast hv hc2
  go_enter Tryz.func130,Tryz.ntmps130
  go_wp2_with fail
  refine (oz HSQ _).mono ?_
  rintro e w1 ⟨rfl,rfl⟩
  go_wp2_with fail
  go_ret3
  exact ⟨by rw [oz HQ];show Ending.returned (Value.tuple #[_,Value.int .i64 ((a+1+n:Nat):Int),_])=_;rw [oz HC];rfl,rfl⟩
 ·rw [hv] at hsq
  have HSQ:=kz hsq
  have hcase:(r < 32)∨(¬ r < 32∧r=39)∨(¬ r < 32∧r≠39∧r=127)∨(¬ r < 32∧r≠39∧r≠127):=by omega
  have hrb:(r:Int)≤1114111:=by omega
  have hnb:(a:Int)+1+(n:Int)≤(s.size:Int):=by omega
  clear hsq hcast hv hr
  rcases hcase with h1 | ⟨h1,h2⟩ | ⟨h1,h2,h3⟩ | ⟨h1,h2,h3⟩
  ·rw [if_pos (.inl h1)] at hq
   have HQ:=kz hq
   have h1':(r:Int) < 32:=by omega
   clear hq h1
   go_enter Tryz.func130,Tryz.ntmps130
   go_wp2_with fail
   refine (oz HSQ _).mono ?_
   rintro e w1 ⟨rfl,rfl⟩
   go_wp2_with fail
   go_ret3
   exact ⟨by rw [oz HQ];rfl,rfl⟩
  ·rw [if_pos (.inr (.inl h2))] at hq
   have HQ:=kz hq
   have h1':¬ (r:Int) < 32:=by omega
   have h2':((r:Int) == 39)=true:=by simp;omega
   clear hq h1 h2
   go_enter Tryz.func130,Tryz.ntmps130
   go_wp2_with fail
   refine (oz HSQ _).mono ?_
   rintro e w1 ⟨rfl,rfl⟩
   go_wp2_with fail
   go_ret3
   exact ⟨by rw [oz HQ];rfl,rfl⟩
  ·rw [if_pos (.inr (.inr h3))] at hq
   have HQ:=kz hq
   have h1':¬ (r:Int) < 32:=by omega
   have h2':((r:Int) == 39)=false:=by simp;omega
   have h3':((r:Int) == 127)=true:=by simp;omega
   clear hq h1 h2 h3
   go_enter Tryz.func130,Tryz.ntmps130
   go_wp2_with fail
   refine (oz HSQ _).mono ?_
   rintro e w1 ⟨rfl,rfl⟩
   go_wp2_with fail
   go_ret3
   exact ⟨by rw [oz HQ];rfl,rfl⟩
  ·rw [if_neg (by omega)] at hq
   have h1':¬ (r:Int) < 32:=by omega
   have h2':((r:Int) == 39)=false:=by simp;omega
   have h3':((r:Int) == 127)=false:=by simp;omega
   obtain ⟨p,hp⟩:∃ p,p=a+1+n:=⟨_,rfl⟩
   have hpi:((a+1+n:Nat):Int)=(p:Int):=by omega
   have HPI:=kz (show (p:Int)=(a:Int)+(1+n:Nat) by omega)
   have hpb:p≤s.size:=by omega
   have hHSQ:=oz HSQ
   have HSQ2:Hz (∀ w,Calls Tryz.prog 82 #[.string s,.int .i64 ((a:Int)+1)] w fun e w' =>e=.returned (.tuple #[.int .i32 r,.int .i64 (p:Int),.bool true])∧w'=w):=kz (fun w =>by rw [← hpi];exact hHSQ w)
   rw [← hp] at hq
   clear hHSQ HSQ h1 h2 h3 hns hnb hpi
   by_cases hl:p < s.size
   ·have hl':¬ (s.size:Int)≤(p:Int):=by omega
    have hl2:(p:Int) < (s.size:Int):=by omega
    have hgb:=zaz s p hl
    obtain ⟨c,ec⟩:∃ c,(s[p]'hl).toNat=c:=⟨_,rfl⟩
    rw [ec] at hgb
    rw [hgb] at hq
    by_cases h39:c=39
    ·rw [if_pos ⟨hl,h39⟩] at hq
     have HQ:=kz hq
     have hc':((c:Int) != 39)=false:=by simp;omega
     have HP1:=kz (show (p:Int)+1=((a+(n+2):Nat):Int) by have:=oz HPI;omega)
     clear hq hgb h39 hp
     go_enter Tryz.func130,Tryz.ntmps130
     go_wp2_with fail
     refine (oz HSQ2 _).mono ?_
     rintro e w1 ⟨rfl,rfl⟩
     go_wp2_with fail
     go_ret3
     exact ⟨by rw [oz HQ];show Ending.returned (Value.tuple #[_,Value.int .i64 ((p:Int)+1),_])=_;rw [oz HP1];rfl,rfl⟩
    ·rw [if_neg (fun q =>h39 q.2)] at hq
     have HQ:=kz hq
     have hc':((c:Int) != 39)=true:=by simp;omega
     clear hq hgb h39 hp
     go_enter Tryz.func130,Tryz.ntmps130
     go_wp2_with fail
     refine (oz HSQ2 _).mono ?_
     rintro e w1 ⟨rfl,rfl⟩
     go_wp2_with fail
     go_ret3
     exact ⟨by rw [oz HQ];show Ending.returned (Value.tuple #[_,Value.int .i64 (p:Int),_])=_;rw [oz HPI];rfl,rfl⟩
   ·rw [if_neg (fun q =>hl q.1)] at hq
    have HQ:=kz hq
    have hl':(s.size:Int)≤(p:Int):=by omega
    clear hq hp hl
    go_enter Tryz.func130,Tryz.ntmps130
    go_wp2_with fail
    refine (oz HSQ2 _).mono ?_
    rintro e w1 ⟨rfl,rfl⟩
    go_wp2_with fail
    go_ret3
    exact ⟨by rw [oz HQ];show Ending.returned (Value.tuple #[_,Value.int .i64 (p:Int),_])=_;rw [oz HPI];rfl,rfl⟩
def hxB (c:Nat):Bool:=decide ((48≤c∧c≤57)∨(65≤c∧c≤70))
theorem zdz {c:Nat}:hxB c=true ↔ 0≤zbM c:=by
 unfold hxB zbM
 rw [decide_eq_true_iff]
 constructor
 ·intro h;split <;> (try split) <;> omega
 ·intro h;split at h <;> (try split at h) <;> omega
theorem zcC {c:Nat} (h:hxB c=true):(zbM c).toNat≤15∧((zbM c).toNat:Int)=zbM c∧((zbM c).toNat=0 ↔ c=48)∧((zbM c).toNat=1 ↔ c=49):=by
 have h1:=of_decide_eq_true h
 unfold zbM
 split
 ·omega
 ·split
  ·omega
  ·omega
def hxV (d:ByteArray):Nat→Nat
 | 0 =>0
 | k+1 =>hxV d k*16+(zbM (bt d k)).toNat
theorem zku (d:ByteArray):∀ k,(∀ i,i < k→hxB (bt d i)=true)→hxV d k < 16 ^ k
 | 0,_ =>by show 0 < 1;decide
 | k+1,h =>by
  have h1:=zku d k (fun i hi =>h i (by omega))
  have h2:=(zcC (h k (by omega))).1
  show hxV d k*16+_ < _
  rw [Nat.pow_succ]
  omega
structure PlSt (s:ByteArray) (a j:Nat):Prop where
 room:a+2+j≤s.size
 hex:∀ i,i < j→hxB (bt (rst s (a+2)) i)=true
 go:zaO (rst s a) 0 2=zaO (rst s a) (hxV (rst s (a+2)) j) (2+j)
 five:5≤j→bt (rst s (a+2)) 0≠48
 six:6≤j→bt (rst s (a+2)) 0=49∧bt (rst s (a+2)) 1=48
 max:j≤6
theorem pl_bt (s:ByteArray) (a k:Nat) (h:a+2≤s.size):bt (rst s a) (2+k)=bt (rst s (a+2)) k:=by
 rw [zaK s a (2+k) (by omega),zaK s (a+2) k h]
 congr 1
 rw [Nat.add_assoc]
theorem zkv (d:ByteArray):hxV d 5=((((zbM (bt d 0)).toNat*16+(zbM (bt d 1)).toNat)*16+(zbM (bt d 2)).toNat)*16+(zbM (bt d 3)).toNat)*16+(zbM (bt d 4)).toNat:=by simp [hxV]
theorem five_iff {d0 d1 d2 d3 d4 d5:Nat} (h1:d1≤15) (h2:d2≤15) (h3:d3≤15) (h4:d4≤15) (h5:d5≤15) (h0:d0≠0):((((d0*16+d1)*16+d2)*16+d3)*16+d4)*16+d5≤1114111 ↔ d0=1∧d1=0:=by omega
theorem six_no {d0 d1 d2 d3 d4 d5 d6:Nat} (h0:d0=1):¬ (((((d0*16+d1)*16+d2)*16+d3)*16+d4)*16+d5)*16+d6≤1114111:=by omega
def plGo (d:ByteArray) (j:Nat):Prop:=j < 4∨(j=4∧bt d 0≠48)∨(j=5∧bt d 0=49∧bt d 1=48)
theorem pl_iff {s:ByteArray} {a j:Nat} (st:PlSt s a j) (hj:a+2+j < s.size) (hx:hxB (bt (rst s (a+2)) j)=true):plGo (rst s (a+2)) j ↔ (2+j < (rst s a).size∧(2+j < 6∨bt (rst s a) 2≠48)∧0≤zbM (bt (rst s a) (2+j))∧hxV (rst s (a+2)) j*16+(zbM (bt (rst s a) (2+j))).toNat≤1114111):=by
 have hz:=zah s a
 have hb:=pl_bt s a j (by omega)
 have hb0:bt (rst s a) 2=bt (rst s (a+2)) 0:=pl_bt s a 0 (by omega)
 have hh:=zdz.1 hx
 have hd:=(zcC hx).1
 rw [hb,hb0]
 have hlt:=zku (rst s (a+2)) j st.hex
 have hmx:=st.max
 have hc:j=0∨j=1∨j=2∨j=3∨j=4∨j=5∨j=6:=by omega
 unfold plGo
 rcases hc with rfl | rfl | rfl | rfl | rfl | rfl | rfl
 iterate 4
   · refine ⟨fun _ =>⟨by omega,.inl (by omega),hh, ?_⟩,fun _ =>.inl (by omega)⟩
     generalize (zbM (bt (rst s (a+2)) _)).toNat=x at hd ⊢
     generalize hxV (rst s (a+2)) _=y at hlt ⊢
     omega
 ·constructor
  ·intro h
   refine ⟨by omega,.inr (by omega),hh, ?_⟩
   generalize (zbM (bt (rst s (a+2)) _)).toNat=x at hd ⊢
   generalize hxV (rst s (a+2)) _=y at hlt ⊢
   omega
  ·intro h
   exact .inr (.inl ⟨rfl, by rcases h.2.1 with q | q; · omega
                             · exact q⟩)
 ·have h5:=st.five (by omega)
  have g0:=zcC (st.hex 0 (by omega))
  have g1:=zcC (st.hex 1 (by omega))
  have g2:=zcC (st.hex 2 (by omega))
  have g3:=zcC (st.hex 3 (by omega))
  have g4:=zcC (st.hex 4 (by omega))
  have k0:(zbM (bt (rst s (a+2)) 0)).toNat≠0:=fun q =>h5 (g0.2.2.1.1 q)
  have key:=five_iff g1.1 g2.1 g3.1 g4.1 hd k0
  rw [← zkv (rst s (a+2))] at key
  constructor
  ·intro h
   have h1:bt (rst s (a+2)) 0=49∧bt (rst s (a+2)) 1=48:=by
    rcases h with q | q | q
    ·omega
    ·omega
    ·exact q.2
   exact ⟨by omega,.inr h5,hh,key.2 ⟨g0.2.2.2.2 h1.1,g1.2.2.1.2 h1.2⟩⟩
  ·intro h
   have q:=key.1 h.2.2.2
   exact .inr (.inr ⟨rfl,g0.2.2.2.1 q.1,g1.2.2.1.1 q.2⟩)
 ·have h6:=st.six (by omega)
  have g0:=zcC (st.hex 0 (by omega))
  have key:=@six_no _ (zbM (bt (rst s (a+2)) 1)).toNat (zbM (bt (rst s (a+2)) 2)).toNat (zbM (bt (rst s (a+2)) 3)).toNat (zbM (bt (rst s (a+2)) 4)).toNat (zbM (bt (rst s (a+2)) 5)).toNat (zbM (bt (rst s (a+2)) 6)).toNat (g0.2.2.2.2 h6.1)
  rw [← zkv (rst s (a+2))] at key
  constructor
  ·intro h
   exfalso
   rcases h with q | q | q <;> omega
  ·intro h
   exact absurd h.2.2.2 key
theorem zjr {s:ByteArray} {a j:Nat} (st:PlSt s a j) (hj:a+2+j < s.size) (hx:hxB (bt (rst s (a+2)) j)=true) (hg:plGo (rst s (a+2)) j):PlSt s a (j+1):=by
 have hn:=(pl_iff st hj hx).1 hg
 have hb:=pl_bt s a j (by omega)
 refine ⟨by omega,fun i hi =>?_, ?_,fun h =>?_,fun h =>?_, ?_⟩
 ·by_cases e:i=j
  ·rw [e];exact hx
  ·exact st.hex i (by omega)
 ·rw [st.go,zcO hn,hb]
  rfl
 ·unfold plGo at hg
  by_cases e:j=4
  ·omega
  ·exact st.five (by omega)
 ·unfold plGo at hg
  by_cases e:j=5
  ·omega
  ·have:=st.max;omega
 ·unfold plGo at hg
  omega
theorem pl_stop {s:ByteArray} {a j:Nat} (st:PlSt s a j) (h:¬ (a+2+j < s.size∧hxB (bt (rst s (a+2)) j)=true∧plGo (rst s (a+2)) j)):zaO (rst s a) 0 2=(hxV (rst s (a+2)) j,2+j):=by
 have hr:=st.room
 rw [st.go]
 refine zaH (fun q =>h ?_)
 have hz:=zah s a
 have hb:=pl_bt s a j (by omega)
 have hj:a+2+j < s.size:=by omega
 have hx:hxB (bt (rst s (a+2)) j)=true:=zdz.2 (by rw [← hb];exact q.2.2.1)
 exact ⟨hj,hx,(pl_iff st hj hx).2 q⟩
theorem pl_zero {s:ByteArray} {a:Nat} (h:a+2≤s.size):PlSt s a 0:=⟨h,fun i hi =>by omega,rfl,fun h =>by omega,fun h =>by omega,by omega⟩
theorem hexB_hxB (c:Nat):hexB c=hxB c:=by
 cases h:hxB c with
 | true =>exact (zkx c).2 (zdz.1 h)
 | false =>
  cases h2:hexB c with
  | true =>rw [zdz.2 ((zkx c).1 h2)] at h;cases h
  | false =>rfl
set_option maxRecDepth 100000 in
set_option maxHeartbeats 8000000 in
theorem zgI (n:Int) (w:World):Calls Tryz.prog 157 #[.int .i64 n] w fun e w' =>e=.returned (.bool (decide (zag n≠0)))∧w'=w:=by
 have hw:decide (zag n≠0)=decide (0≤n∧n≤1114111∧(n < 55296∨57343 < n)):=by
  apply decide_eq_decide.2
  unfold zag
  constructor
  ·intro h;repeat' split at h
   all_goals omega
  ·intro h
   rw [if_neg (by omega)]
   repeat' split
   all_goals decide
 rw [hw]
 clear hw
 have hcase:(n < 0)∨(0≤n∧1114111 < n)∨(0≤n∧n≤1114111∧n < 55296)∨(0≤n∧n≤1114111∧¬ n < 55296∧57343 < n)∨(0≤n∧n≤1114111∧¬ n < 55296∧¬ 57343 < n):=by omega
 rcases hcase with h | ⟨h1,h2⟩ | ⟨h1,h2,h3⟩ | ⟨h1,h2,h3,h4⟩ | ⟨h1,h2,h3,h4⟩
 ·rw [decide_eq_false (by omega)]
  go_enter Tryz.func157,Tryz.ntmps157
  go_wp2
  go_ret
  exact ⟨by first | rfl | (simp;omega),rfl⟩
 ·rw [decide_eq_false (by omega)]
  go_enter Tryz.func157,Tryz.ntmps157
  go_wp2
  go_ret
  exact ⟨by first | rfl | (simp;omega),rfl⟩
 ·rw [decide_eq_true (by omega)]
  go_enter Tryz.func157,Tryz.ntmps157
  go_wp2
  go_ret
  exact ⟨by first | rfl | (simp;omega),rfl⟩
 ·rw [decide_eq_true (by omega)]
  go_enter Tryz.func157,Tryz.ntmps157
  go_wp2
  go_ret
  exact ⟨by first | rfl | (simp;omega),rfl⟩
 ·rw [decide_eq_false (by omega)]
  go_enter Tryz.func157,Tryz.ntmps157
  go_wp2
  go_ret
  exact ⟨by first | rfl | (simp;omega),rfl⟩
set_option maxRecDepth 100000 in
set_option maxHeartbeats 8000000 in
theorem value_ref (u:ByteArray) (hu:u.size≤6) (hx:∀ i,i < u.size→hxB (bt u i)=true) (w:World):Calls Tryz.prog 158 #[.string u] w fun e w' =>e=.returned (.int .i64 (hxV u u.size))∧w'=w:=by
 have HX:=kz hx
 clear hx
 go_enter Tryz.func158,Tryz.ntmps158
 go_wp2_with fail
 go_loop [3,4] (fun n i => ∃ k v:Nat,k≤u.size∧i=.int .i64 k∧n=.int .i64 v∧Hz (v=hxV u k)∧Hz (v < 16 ^ k)) (fun _ i =>u.size - (intOf i).toNat)
 case atStart =>exact ⟨0,0,by omega,rfl,rfl,kz rfl,kz (by decide)⟩
 case round =>
  obtain ⟨k,v,hk,rfl,rfl,HV,HL⟩:=hrel
  by_cases hks:k < u.size
  ·have hks':(k:Int) < (u.size:Int):=by omega
   have hgb:=zaz u k hks
   have hcl:=zaX u k
   have hxk:=oz HX k hks
   obtain ⟨c,ec⟩:∃ c,(u[k]'hks).toNat=c:=⟨_,rfl⟩
   rw [hgb,ec] at hcl hxk
   rw [ec] at hgb
   have hvb:v < 1048576:=Nat.lt_of_lt_of_le (oz HL) (Nat.le_trans (Nat.pow_le_pow_right (by decide) (show k≤5 by omega)) (by decide))
   have hst:hxV u (k+1)=v*16+(zbM c).toNat:=by show hxV u k*16+(zbM (bt u k)).toNat=_;rw [← oz HV,hgb]
   have hd:=(zcC hxk).1
   have HL2:Hz (v*16+(zbM c).toNat < 16 ^ (k+1)):=kz (by rw [Nat.pow_succ];have:=oz HL;omega)
   have HDG:=kz (zcq c hcl)
   have hx2:=of_decide_eq_true hxk
   by_cases h57:c≤57
   ·have hdc:zcr c=true:=decide_eq_true (by omega)
    have hI:(zbM c).toNat=c - 48:=by unfold zbM;rw [if_pos (by omega)];omega
    have hc48:48≤c:=by omega
    rw [hdc] at HDG
    rw [hI] at hst HL2
    have HST:=kz hst
    have HC:=kz (show ((v*16+(c - 48):Nat):Int)=(v:Int)*16+((c:Int) - 48) by omega)
    clear hst hI hgb hxk hx2 hdc hd
    go_wp2_with fail
    refine (oz HDG _).mono ?_
    rintro e w1 ⟨rfl,rfl⟩
    go_wp2_with fail
    go_round
    case rel =>exact ⟨k+1,v*16+(c - 48),by omega,by go_num,by rw [oz HC],kz (oz HST).symm,HL2⟩
    case measure =>simp [intOf];omega
   ·have hdc:zcr c=false:=decide_eq_false (by omega)
    have hI:(zbM c).toNat=c - 55:=by unfold zbM;rw [if_neg (by omega),if_pos (by omega)];omega
    have hc65:65≤c:=by omega
    rw [hdc] at HDG
    rw [hI] at hst HL2
    have HST:=kz hst
    have HC:=kz (show ((v*16+(c - 55):Nat):Int)=(v:Int)*16+((c:Int) - 65)+10 by omega)
    clear hst hI hgb hxk hx2 hdc hd
    go_wp2_with fail
    refine (oz HDG _).mono ?_
    rintro e w1 ⟨rfl,rfl⟩
    go_wp2_with fail
    go_round
    case rel =>exact ⟨k+1,v*16+(c - 55),by omega,by go_num,by rw [oz HC],kz (oz HST).symm,HL2⟩
    case measure =>simp [intOf];omega
  ·have hks':¬ (k:Int) < (u.size:Int):=by omega
   have HF:Hz (v=hxV u u.size):=kz (by rw [show u.size=k by omega];exact oz HV)
   go_wp2_with fail
   go_ret
   exact ⟨by rw [← oz HF];rfl,rfl⟩
end Go.Proofs.YtmdgejgokoadlaaGreatDoor
