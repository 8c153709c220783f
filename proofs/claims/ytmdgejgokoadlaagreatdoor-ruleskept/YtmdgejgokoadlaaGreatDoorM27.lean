/- Texts of this claim, one behind the other. -/
import Derived.Test.YtmdgejgokoadlaaGreatDoorM26
import Derived.Test.YtmdgejgokoadlaaGreatDoorM7
/- The reference's plus. -/
namespace Go.Proofs.YtmdgejgokoadlaaGreatDoor
open Go.RowKit Go.Shelf
set_option linter.unusedVariables false
def zeL (s:ByteArray) (p:Nat):Bool := !(decide (p < s.size) && hxB (bt s p))
def zjq (s:ByteArray) (a:Nat):Nat × Nat × Bool:=if ((zax (rst s a)).2.2 && zeL s (a+(zax (rst s a)).2.1))=true then ((zax (rst s a)).1,(zax (rst s a)).2.1,true) else (0,(zax (rst s a)).2.1,false)
theorem ziq (s:ByteArray) (a:Nat) (h:a < s.size) (hp:s.size < a+2∨bt s (a+1)≠43):zjq s a=(0,1,false):=by
 have hz:=zah s a
 have hb:bt (rst s a) 1=bt s (a+1):=zaK s a 1 (by omega)
 have e:zax (rst s a)=(0,1,false):=by unfold zax;rw [if_pos (by rw [hb];omega)]
 unfold zjq
 rw [e]
 rfl
theorem plus_at (s:ByteArray) (a j:Nat) (hp:bt s (a+1)=43) (st:PlSt s a j) (h:¬ (a+2+j < s.size∧hxB (bt (rst s (a+2)) j)=true∧plGo (rst s (a+2)) j)):zjq s a=if zeL s (a+2+j)=true∧4≤j∧zag (hxV (rst s (a+2)) j:Nat)≠0 then (hxV (rst s (a+2)) j,2+j,true) else (0,2+j,false):=by
 have hr:=st.room
 have hz:=zah s a
 have hb:bt (rst s a) 1=bt s (a+1):=zaK s a 1 (by omega)
 have e:=pl_stop st h
 have en:zax (rst s a)=if 2+j < 6∨zag (hxV (rst s (a+2)) j:Nat)=0 then (0,2+j,false) else (hxV (rst s (a+2)) j,2+j,true):=by
  unfold zax
  rw [if_neg (by rw [hb];omega),e]
 unfold zjq
 rw [en]
 by_cases hq:2+j < 6∨zag (hxV (rst s (a+2)) j:Nat)=0
 ·rw [if_pos hq]
  show (if (false && zeL s (a+(2+j)))=true then _ else (0,2+j,false))=_
  rw [if_neg (by simp), if_neg (fun q => by rcases hq with h | h; · omega
                                            · exact q.2.2 h)]
 ·rw [if_neg hq]
  show (if (true && zeL s (a+(2+j)))=true then (hxV (rst s (a+2)) j,2+j,true) else (0,2+j,false))=_
  rw [Bool.true_and, ← Nat.add_assoc]
  by_cases hn:zeL s (a+2+j)=true
  ·rw [if_pos hn,if_pos ⟨hn,by omega,fun q =>hq (.inr q)⟩]
  ·rw [if_neg hn,if_neg (fun q =>hn q.1)]
theorem zkw (u d:ByteArray):∀ k,(∀ i,i < k→bt u i=bt d i)→hxV u k=hxV d k
 | 0,_ =>rfl
 | k+1,h =>by
  show hxV u k*16+(zbM (bt u k)).toNat=hxV d k*16+(zbM (bt d k)).toNat
  rw [zkw u d k (fun i hi =>h i (by omega)),h k (by omega)]
set_option maxRecDepth 100000 in
set_option maxHeartbeats 8000000 in
theorem plus_ref (s:ByteArray) (hs:s.size≤1099511627776) (a:Nat) (ha:a < s.size) (w:World):Calls Tryz.prog 129 #[.string s,.int .i64 a] w fun e w' =>e=.returned (seqR4 a (zjq s a))∧w'=w:=by
 by_cases h2:a+1 < s.size
 ·have h2':¬ (s.size:Int)≤(a:Int)+1:=by omega
  have h2i:(a:Int)+1 < (s.size:Int):=by omega
  have hgb:=zaz s (a+1) h2
  obtain ⟨c,ec⟩:∃ c,(s[a+1]'h2).toNat=c:=⟨_,rfl⟩
  rw [ec] at hgb
  by_cases hc:c=43
  ·subst hc
   obtain ⟨F,hF⟩:∃ F,F=a+2:=⟨_,rfl⟩
   have hFi:(a:Int)+1+1=(F:Int):=by omega
   have hat:=fun j st h =>plus_at s a j hgb st h
   rw [← hF] at hat
   have HAT:=kz hat
   have hFs:F≤s.size:=by omega
   have H0:=kz (pl_zero (s:=s) (a:=a) (by omega))
   have hrF:∀ k,bt (rst s F) k=bt s (F+k):=fun k =>zaK s F k hFs
   have HRF:=kz hrF
   have HF:=kz hF
   clear hat hgb hrF hF
   go_enter Tryz.func129,Tryz.ntmps129
   go_wp2_with fail
   clear hFi ec
   go_loop [1,8] (fun x _ => ∃ p j:Nat,p≤s.size∧F≤p∧j≤6∧x=.int .i64 p∧Hz (p=F+j)∧Hz (PlSt s a j)) (fun x _ =>s.size - (intOf x).toNat)
   case atStart =>exact ⟨F,0,by omega,by omega,by omega,rfl,kz rfl,H0⟩
   case round =>
    obtain ⟨p,j,hp,hFp,hj6,rfl,HPJ,HST⟩:=hrel
    have hpj:(p:Int) - (F:Int)=(j:Int):=by have:=oz HPJ;omega
    have HPI:=kz (show (p:Int)=(a:Int)+((2+j:Nat):Int) by have:=oz HPJ;have:=oz HF;omega)
    have hdj:bt (rst s F) j=bt s p:=by rw [oz HRF j, ← oz HPJ]
    have HFIN:Hz (∃ (U:ByteArray) (v:Nat),s.extract F p=U∧(∀ w,Calls Tryz.prog 158 #[.string U] w fun e w' =>e=.returned (.int .i64 v)∧w'=w)∧hxV (rst s F) j=v):=kz (by
     have hpe:=oz HPJ
     have hz:(s.extract F p).size=j:=by rw [ByteArray.size_extract];omega
     have hbu:∀ i,i < j→bt (s.extract F p) i=bt (rst s F) i:=fun i hi =>by
      rw [oz HRF i]
      unfold bt
      rw [zbt s F p i (by omega) hp]
     refine ⟨_,_,rfl,fun w =>?_,rfl⟩
     have:=value_ref (s.extract F p) (by omega) (fun i hi =>by rw [hz] at hi;rw [hbu i hi,oz HF];exact (oz HST).hex i hi) w
     rw [hz,zkw _ _ j hbu] at this
     exact this)
    by_cases hps:p < s.size
    ·have hps':(p:Int) < (s.size:Int):=by omega
     have hgb:=zaz s p hps
     have hcl:=zaX s p
     obtain ⟨c,ec⟩:∃ c,(s[p]'hps).toNat=c:=⟨_,rfl⟩
     rw [hgb,ec] at hcl
     rw [ec] at hgb
     have HHX:=kz (hex_ref c hcl)
     rw [hexB_hxB] at HHX
     cases hxc:hxB c
     ·rw [hxc] at HHX
      have hq:=oz HAT j (oz HST) (fun q =>by have:=q.2.1;rw [hdj,hgb,hxc] at this;cases this)
      have hnh:zeL s (F+j)=true:=by rw [← oz HPJ];unfold zeL;rw [hgb,hxc];simp
      clear hgb hxc
      by_cases hj4:j < 4
      ·rw [if_neg (by omega)] at hq
       have HQ:=kz hq
       have t1:(j:Int) < 4:=by omega
       clear hq hnh hdj HFIN
       go_wp2_with fail
       refine (oz HHX _).mono ?_
       rintro e w1 ⟨rfl,rfl⟩
       go_wp2_with fail
       go_ret3
       exact ⟨by rw [oz HQ];show Ending.returned (Value.tuple #[_,Value.int .i64 (p:Int),_])=_;rw [oz HPI];rfl,rfl⟩
      ·have t1:¬ (j:Int) < 4:=by omega
       obtain ⟨U,v,hU,hval,hve⟩:=oz HFIN
       rw [hve] at hq
       have hsc:=zgI (v:Int)
       have HVA:=kz hval
       have hvb:(v:Int) < 16777216:=by
        have h1:=zku (rst s (a+2)) j (oz HST).hex
        have h2:(16:Nat) ^ j≤16 ^ 6:=Nat.pow_le_pow_right (by decide) hj6
        rw [← oz HF,hve] at h1
        have h3:(16:Nat) ^ 6=16777216:=by decide
        omega
       have hFp':(F:Int)≤(p:Int):=by omega
       have hpl':(p:Int)≤(s.size:Int):=by omega
       by_cases hw:zag (v:Int)=0
       ·rw [if_neg (fun q =>q.2.2 hw)] at hq
        rw [decide_eq_false (fun q =>q hw)] at hsc
        have HQ:=kz hq
        have HSC:=kz hsc
        clear hq hnh hdj HFIN hval hsc hw hve
        go_wp2_with fail
        refine (oz HHX _).mono ?_
        rintro e w1 ⟨rfl,rfl⟩
        go_wp2_with fail
        refine (oz HVA _).mono ?_
        rintro e w1 ⟨rfl,rfl⟩
        go_wp2_with fail
        refine (oz HSC _).mono ?_
        rintro e w1 ⟨rfl,rfl⟩
        go_wp2_with fail
        go_ret3
        exact ⟨by rw [oz HQ];show Ending.returned (Value.tuple #[_,Value.int .i64 (p:Int),_])=_;rw [oz HPI];rfl,rfl⟩
       ·rw [if_pos ⟨hnh,by omega,hw⟩] at hq
        rw [decide_eq_true hw] at hsc
        have hv2:=(zcf _ hw).2
        have HV2:=kz hv2
        clear hv2 hvb
        have HQ:=kz hq
        have HSC:=kz hsc
        clear hq hnh hdj HFIN hval hsc hw hve
        go_wp2_with fail
        refine (oz HHX _).mono ?_
        rintro e w1 ⟨rfl,rfl⟩
        go_wp2_with fail
        refine (oz HVA _).mono ?_
        rintro e w1 ⟨rfl,rfl⟩
        go_wp2_with fail
        refine (oz HSC _).mono ?_
        rintro e w1 ⟨rfl,rfl⟩
        go_wp2_with fail
        refine (oz HVA _).mono ?_
        rintro e w1 ⟨rfl,rfl⟩
        go_wp2_with fail
        go_ret3
        exact ⟨by rw [oz HQ];show Ending.returned (Value.tuple #[Value.int .i32 (wrap32 (v:Int)),Value.int .i64 (p:Int),_])=_;rw [oz HPI,show wrap32 (v:Int)=v by unfold wrap32;have:=oz HV2;omega];rfl,rfl⟩
     ·rw [hxc] at HHX
      have hx:hxB (bt (rst s F) j)=true:=by rw [hdj,hgb];exact hxc
      have hnh:zeL s p=false:=by unfold zeL;rw [hgb,hxc,decide_eq_true hps];rfl
      clear hxc hdj
      have hjc:j < 4∨j=4∨j=5∨j=6:=by omega
      rcases hjc with h4 | h4 | h4 | h4
      ·have t1:¬ (6:Int) < (j:Int)+1:=by omega
       have t2:¬ (4:Int) < (j:Int)+1:=by omega
       have t3:((j:Int)+1 == 6)=false:=by simp;omega
       have HN:=kz (zjr (oz HST) (by rw [← oz HF, ← oz HPJ];exact hps) (by rw [← oz HF];exact hx) (by rw [← oz HF];exact (.inl h4)))
       have HPJ2:Hz (p+1=F+(j+1)):=kz (by have:=oz HPJ;omega)
       clear hnh hgb hx h4
       go_wp2_with fail
       refine (oz HHX _).mono ?_
       rintro e w1 ⟨rfl,rfl⟩
       go_wp2_with fail
       go_round
       case rel =>exact ⟨p+1,j+1,by omega,by omega,by omega,by go_num,HPJ2,HN⟩
       case measure =>simp [intOf];omega
      ·have t1:¬ (6:Int) < (j:Int)+1:=by omega
       have t2:(4:Int) < (j:Int)+1:=by omega
       have t3:((j:Int)+1 == 6)=false:=by simp;omega
       have hFl:F < s.size:=by omega
       have hFl':(F:Int) < (s.size:Int):=by omega
       have hg0:=zaz s F hFl
       obtain ⟨b0,eb0⟩:∃ b0,(s[F]'hFl).toNat=b0:=⟨_,rfl⟩
       rw [eb0] at hg0
       have hd0:bt (rst s F) 0=b0:=by rw [oz HRF 0,Nat.add_zero,hg0]
       by_cases h48:b0=48
       ·have t4:((b0:Int) == 48)=true:=by simp;omega
        clear hg0
        have HQ:=kz (oz HAT j (oz HST) (fun q =>absurd q.2.2 (fun g =>by unfold plGo at g;rw [hd0] at g;omega)))
        rw [if_neg (fun q =>by have:=q.1;rw [← oz HPJ,hnh] at this;cases this)] at HQ
        clear hnh hgb hx h4
        go_wp2_with fail
        refine (oz HHX _).mono ?_
        rintro e w1 ⟨rfl,rfl⟩
        go_wp2_with fail
        go_ret3
        exact ⟨by rw [oz HQ];show Ending.returned (Value.tuple #[_,Value.int .i64 (p:Int),_])=_;rw [oz HPI];rfl,rfl⟩
       ·have t4:((b0:Int) == 48)=false:=by simp;omega
        clear hg0
        have HN:=kz (zjr (oz HST) (by rw [← oz HF, ← oz HPJ];exact hps) (by rw [← oz HF];exact hx) (by rw [← oz HF];exact (.inr (.inl ⟨h4,by rw [hd0];exact h48⟩))))
        have HPJ2:Hz (p+1=F+(j+1)):=kz (by have:=oz HPJ;omega)
        clear hnh hgb hx h4
        go_wp2_with fail
        refine (oz HHX _).mono ?_
        rintro e w1 ⟨rfl,rfl⟩
        go_wp2_with fail
        go_round
        case rel =>exact ⟨p+1,j+1,by omega,by omega,by omega,by go_num,HPJ2,HN⟩
        case measure =>simp [intOf];omega
      ·have t1:¬ (6:Int) < (j:Int)+1:=by omega
       have t2:(4:Int) < (j:Int)+1:=by omega
       have t3:((j:Int)+1 == 6)=true:=by simp;omega
       have hFl:F < s.size:=by omega
       have hFl':(F:Int) < (s.size:Int):=by omega
       have hFm:F+1 < s.size:=by have:=oz HPJ;omega
       have hFm':(F:Int)+1 < (s.size:Int):=by omega
       have hg0:=zaz s F hFl
       have hg1:=zaz s (F+1) hFm
       obtain ⟨b0,eb0⟩:∃ b0,(s[F]'hFl).toNat=b0:=⟨_,rfl⟩
       obtain ⟨b1,eb1⟩:∃ b1,(s[F+1]'hFm).toNat=b1:=⟨_,rfl⟩
       rw [eb0] at hg0
       rw [eb1] at hg1
       have hd0:bt (rst s F) 0=b0:=by rw [oz HRF 0,Nat.add_zero,hg0]
       have hd1:bt (rst s F) 1=b1:=by rw [oz HRF 1,hg1]
       have h48:b0≠48:=by rw [← hd0,oz HF];exact (oz HST).five (by omega)
       have t4:((b0:Int) == 48)=false:=by simp;omega
       clear hg0 hg1
       by_cases h49:b0=49
       ·have t5:((b0:Int) != 49)=false:=by simp;omega
        by_cases h481:b1=48
        ·have t6:((b1:Int) != 48)=false:=by simp;omega
         have HN:=kz (zjr (oz HST) (by rw [← oz HF, ← oz HPJ];exact hps) (by rw [← oz HF];exact hx) (by rw [← oz HF];exact (.inr (.inr ⟨h4,by rw [hd0];exact h49,by rw [hd1];exact h481⟩))))
         have HPJ2:Hz (p+1=F+(j+1)):=kz (by have:=oz HPJ;omega)
         clear hnh hgb hx h4
         go_wp2_with fail
         refine (oz HHX _).mono ?_
         rintro e w1 ⟨rfl,rfl⟩
         go_wp2_with fail
         go_round
         case rel =>exact ⟨p+1,j+1,by omega,by omega,by omega,by go_num,HPJ2,HN⟩
         case measure =>simp [intOf];omega
        ·have t6:((b1:Int) != 48)=true:=by simp;omega
         have HQ:=kz (oz HAT j (oz HST) (fun q =>absurd q.2.2 (fun g =>by unfold plGo at g;rw [hd0,hd1] at g;omega)))
         rw [if_neg (fun q =>by have:=q.1;rw [← oz HPJ,hnh] at this;cases this)] at HQ
         clear hnh hgb hx h4
         go_wp2_with fail
         refine (oz HHX _).mono ?_
         rintro e w1 ⟨rfl,rfl⟩
         go_wp2_with fail
         go_ret3
         exact ⟨by rw [oz HQ];show Ending.returned (Value.tuple #[_,Value.int .i64 (p:Int),_])=_;rw [oz HPI];rfl,rfl⟩
       ·have t5:((b0:Int) != 49)=true:=by simp;omega
        have HQ:=kz (oz HAT j (oz HST) (fun q =>absurd q.2.2 (fun g =>by unfold plGo at g;rw [hd0] at g;omega)))
        rw [if_neg (fun q =>by have:=q.1;rw [← oz HPJ,hnh] at this;cases this)] at HQ
        clear hnh hgb hx h4
        go_wp2_with fail
        refine (oz HHX _).mono ?_
        rintro e w1 ⟨rfl,rfl⟩
        go_wp2_with fail
        go_ret3
        exact ⟨by rw [oz HQ];show Ending.returned (Value.tuple #[_,Value.int .i64 (p:Int),_])=_;rw [oz HPI];rfl,rfl⟩
      ·have t1:(6:Int) < (j:Int)+1:=by omega
       have HQ:=kz (oz HAT j (oz HST) (fun q =>absurd q.2.2 (fun g =>by unfold plGo at g;omega)))
       rw [if_neg (fun q =>by have:=q.1;rw [← oz HPJ,hnh] at this;cases this)] at HQ
       clear hnh hgb hx h4
       go_wp2_with fail
       refine (oz HHX _).mono ?_
       rintro e w1 ⟨rfl,rfl⟩
       go_wp2_with fail
       go_ret3
       exact ⟨by rw [oz HQ];show Ending.returned (Value.tuple #[_,Value.int .i64 (p:Int),_])=_;rw [oz HPI];rfl,rfl⟩
    ·have hps':¬ (p:Int) < (s.size:Int):=by omega
     have hq:=oz HAT j (oz HST) (fun q =>by have:=q.1;have:=oz HPJ;omega)
     have hnh:zeL s (F+j)=true:=by rw [← oz HPJ];unfold zeL;rw [decide_eq_false hps];rfl
     by_cases hj4:j < 4
     ·rw [if_neg (by omega)] at hq
      have HQ:=kz hq
      have t1:(j:Int) < 4:=by omega
      clear hq hnh hdj HFIN
      go_wp2_with fail
      go_ret3
      exact ⟨by rw [oz HQ];show Ending.returned (Value.tuple #[_,Value.int .i64 (p:Int),_])=_;rw [oz HPI];rfl,rfl⟩
     ·have t1:¬ (j:Int) < 4:=by omega
      obtain ⟨U,v,hU,hval,hve⟩:=oz HFIN
      rw [hve] at hq
      have hsc:=zgI (v:Int)
      have HVA:=kz hval
      have hvb:(v:Int) < 16777216:=by
       have h1:=zku (rst s (a+2)) j (oz HST).hex
       have h2:(16:Nat) ^ j≤16 ^ 6:=Nat.pow_le_pow_right (by decide) hj6
       rw [← oz HF,hve] at h1
       have h3:(16:Nat) ^ 6=16777216:=by decide
       omega
      have hFp':(F:Int)≤(p:Int):=by omega
      have hpl':(p:Int)≤(s.size:Int):=by omega
      by_cases hw:zag (v:Int)=0
      ·rw [if_neg (fun q =>q.2.2 hw)] at hq
       rw [decide_eq_false (fun q =>q hw)] at hsc
       have HQ:=kz hq
       have HSC:=kz hsc
       clear hq hnh hdj HFIN hval hsc hw hve
       go_wp2_with fail
       refine (oz HVA _).mono ?_
       rintro e w1 ⟨rfl,rfl⟩
       go_wp2_with fail
       refine (oz HSC _).mono ?_
       rintro e w1 ⟨rfl,rfl⟩
       go_wp2_with fail
       go_ret3
       exact ⟨by rw [oz HQ];show Ending.returned (Value.tuple #[_,Value.int .i64 (p:Int),_])=_;rw [oz HPI];rfl,rfl⟩
      ·rw [if_pos ⟨hnh,by omega,hw⟩] at hq
       rw [decide_eq_true hw] at hsc
       have hv2:=(zcf _ hw).2
       have HV2:=kz hv2
       clear hv2 hvb
       have HQ:=kz hq
       have HSC:=kz hsc
       clear hq hnh hdj HFIN hval hsc hw hve
       go_wp2_with fail
       refine (oz HVA _).mono ?_
       rintro e w1 ⟨rfl,rfl⟩
       go_wp2_with fail
       refine (oz HSC _).mono ?_
       rintro e w1 ⟨rfl,rfl⟩
       go_wp2_with fail
       refine (oz HVA _).mono ?_
       rintro e w1 ⟨rfl,rfl⟩
       go_wp2_with fail
       go_ret3
       exact ⟨by rw [oz HQ];show Ending.returned (Value.tuple #[Value.int .i32 (wrap32 (v:Int)),Value.int .i64 (p:Int),_])=_;rw [oz HPI,show wrap32 (v:Int)=v by unfold wrap32;have:=oz HV2;omega];rfl,rfl⟩
  ·have HQ:=kz (ziq s a ha (.inr (by rw [hgb];exact hc)))
   have hc':((c:Int) != 43)=true:=by simp;omega
   clear hgb hc
   go_enter Tryz.func129,Tryz.ntmps129
   go_wp2_with fail
   go_ret3
   exact ⟨by rw [oz HQ];rfl,rfl⟩
 ·have h2':(s.size:Int)≤(a:Int)+1:=by omega
  have HQ:=kz (ziq s a ha (.inl (by omega)))
  go_enter Tryz.func129,Tryz.ntmps129
  go_wp2_with fail
  go_ret3
  exact ⟨by rw [oz HQ];rfl,rfl⟩
theorem zgU (t:ByteArray):∀ f v k,t.size≤k+f→1≤k→zcr (bt t (k - 1))=true→zcr (bt t ((zcW t v k).2 - 1))=true
 | 0,v,k,h,h1,hd =>by rw [za5 (by omega)];exact hd
 | f+1,v,k,h,h1,hd =>by
  by_cases hc:k < t.size∧zcr (bt t k)=true∧0 < v∧v*10+(bt t k - 48)≤65535
  ·rw [zed hc.1 hc.2.1 hc.2.2.1 hc.2.2.2]
   exact zgU t f _ (k+1) (by omega) (by omega) hc.2.1
  ·rw [za5 hc];exact hd
theorem zix (t:ByteArray) (h:0 < t.size) (hd:zcr (bt t 0)=true):zcr (bt t ((zcH t).2 - 1))=true:=zgU t t.size _ 1 (by omega) (by omega) hd
theorem zeq (t:ByteArray):∀ f v k,t.size≤k+f→1≤k→(3≤k→hxB (bt t (k - 1))=true)→3≤(zaO t v k).2→hxB (bt t ((zaO t v k).2 - 1))=true
 | 0,v,k,h,h1,hd,h3 =>by rw [zaH (by omega)] at h3 ⊢;exact hd h3
 | f+1,v,k,h,h1,hd,h3 =>by
  by_cases hc:k < t.size∧(k < 6∨bt t 2≠48)∧0≤zbM (bt t k)∧v*16+(zbM (bt t k)).toNat≤1114111
  ·rw [zcO hc] at h3 ⊢
   exact zeq t f _ (k+1) (by omega) (by omega) (fun _ =>zdz.2 hc.2.2.1) h3
  ·rw [zaH hc] at h3 ⊢;exact hd h3
theorem zc2 (t:ByteArray):∀ f k,min t.size 32≤k+f→1≤k→k≤min t.size 32→zcd (bt t (k - 1))=true→zcd (bt t (za2 (fun n =>zcd (bt t n)) (min t.size 32) k - 1))=true
 | 0,k,h,h1,hk,hd =>by rw [zaC (by omega)];exact hd
 | f+1,k,h,h1,hk,hd =>by
  by_cases hl:k < min t.size 32
  ·cases hp:zcd (bt t k) with
   | true =>rw [zbx (p:=fun n =>zcd (bt t n)) hl hp];exact zc2 t f (k+1) (by omega) (by omega) (by omega) hp
   | false =>rw [zbb (p:=fun n =>zcd (bt t n)) hp];exact hd
  ·rw [zaC hl];exact hd
theorem zhm {c:Nat} (h:zcr c=true):zdN c=true:=by unfold zdN zcd;rw [h];simp
theorem zhl {c:Nat} (h:hxB c=true):zdN c=true:=by
 have h1:=of_decide_eq_true h
 rcases h1 with h1 | h1
 ·exact zhm (decide_eq_true h1)
 ·unfold zdN
  rw [decide_eq_true (show 65≤c∧c≤90 by omega)]
  simp
theorem zdR {c:Nat} (h:zcd c=true):zdN c=true:=by unfold zdN;rw [h];simp
abbrev zcs (v:WV) (a:Nat):Value := .agg #[.int .i64 v.kind,.string v.S,.int .i32 v.R,.int .i64 v.N,.int .i64 a,.int .i64 ((a+v.n:Nat):Int)]
def IsW (V:Value):Prop := ∃ (z0:Int) (z1:ByteArray) (z2 z3 z4 z5:Int),V=.agg #[.int .i64 z0,.string z1,.int .i32 z2,.int .i64 z3,.int .i64 z4,.int .i64 z5]
theorem zba (z:Int) (c:Nat) (hz:z=c) (hc:c < 256) (b:Bool) (hb:zaP c=b) (w:World):Calls Tryz.prog 126 #[.int .u8 z] w fun e w' =>e=.returned (.bool b)∧w'=w:=by subst hz;rw [← hb];exact zdT c hc w
theorem zbn (z:Int) (c:Nat) (hz:z=c) (hc:c < 256) (b:Bool) (hb:zcr c=b) (w:World):Calls Tryz.prog 127 #[.int .u8 z] w fun e w' =>e=.returned (.bool b)∧w'=w:=by subst hz;rw [← hb];exact zcq c hc w
theorem zds (z:Int) (c:Nat) (hz:z=c) (hc:c < 256) (b:Bool) (hb:zdN c=b) (w:World):Calls Tryz.prog 131 #[.int .u8 z] w fun e w' =>e=.returned (.bool b)∧w'=w:=by subst hz;rw [← hb];exact zb8 c hc w
abbrev wz (x:Value):Array Value:=#[.int .i64 0,.string ⟨#[]⟩,.int .i32 0,.int .i64 0,x,.int .i64 0]
structure WdC (w W:World) (cs:Array Value):Prop where
 res:Blk W w.heap.size (wz (.int .i64 0)) 123
 cur:Blk W (w.heap.size+1) cs 123
 bel:Below w.heap.size w W
theorem zbq (w:World) (a:Nat):WdC w ((w.alloc (.cells (wz (.int .i64 0)) 123)).alloc (.cells (wz (.int .i64 a)) 123)) (wz (.int .i64 a)) :=
 ⟨(Blk.new w _ _).alloc _,by have:=Blk.new (w.alloc (.cells (wz (.int .i64 0)) 123)) (wz (.int .i64 a)) 123;rwa [World.size_alloc] at this,((Below.refl _ w).alloc (Nat.le_refl _) _).alloc (by simp) _⟩
theorem WdC.set {w W:World} {cs:Array Value} (h:WdC w W cs) (i:Nat) (v:Value):WdC w (W.setCell ⟨w.heap.size+1,i,none⟩ v) (cs.setIfInBounds i v):=⟨h.res.other (by omega) v,h.cur.set i v,h.bel.setCell (p:=⟨w.heap.size+1,i,none⟩) (by simp) v⟩
theorem WdC.fin {w W:World} {cs:Array Value} (h:WdC w W cs) (x0 x1 x2 x3 x4 x5:Value) :
  Blk ((((((W.setCell ⟨w.heap.size,0,none⟩ x0).setCell ⟨w.heap.size,1,none⟩ x1).setCell ⟨w.heap.size,2,none⟩ x2).setCell ⟨w.heap.size,3,none⟩ x3).setCell ⟨w.heap.size,4,none⟩ x4).setCell ⟨w.heap.size,5,none⟩ x5) w.heap.size #[x0,x1,x2,x3,x4,x5] 123 ∧
  Below w.heap.size w ((((((W.setCell ⟨w.heap.size,0,none⟩ x0).setCell ⟨w.heap.size,1,none⟩ x1).setCell ⟨w.heap.size,2,none⟩ x2).setCell ⟨w.heap.size,3,none⟩ x3).setCell ⟨w.heap.size,4,none⟩ x4).setCell ⟨w.heap.size,5,none⟩ x5) :=
 ⟨((((h.res.set 0 x0).set 1 x1).set 2 x2).set 3 x3).set 4 x4 |>.set 5 x5,(((((h.bel.setCell (p:=⟨w.heap.size,0,none⟩) (Nat.le_refl _) x0).setCell (p:=⟨w.heap.size,1,none⟩) (Nat.le_refl _) x1).setCell (p:=⟨w.heap.size,2,none⟩) (Nat.le_refl _) x2).setCell (p:=⟨w.heap.size,3,none⟩) (Nat.le_refl _) x3).setCell (p:=⟨w.heap.size,4,none⟩) (Nat.le_refl _) x4).setCell (p:=⟨w.heap.size,5,none⟩) (Nat.le_refl _) x5⟩
set_option maxRecDepth 100000 in
set_option maxHeartbeats 8000000 in
theorem word_quo (s:ByteArray) (hs:s.size≤1099511627776) (a:Nat) (ha:a < s.size) (hc:bt s a=39) (w:World):Calls Tryz.prog 81 #[.string s,.int .i64 a] w fun e w' => ∃ V,e=.returned (.tuple #[V,.int .i64 ((a+(zac (rst s a)).n:Nat):Int),.bool (zac (rst s a)).ok])∧((zac (rst s a)).ok=true→V=zcs (zac (rst s a)) a)∧IsW V∧Below w.heap.size w w':=by
 have hb0:bt (rst s a) 0=bt s a:=zaK s a 0 (by omega)
 obtain ⟨r,n,o,hq⟩:=prod3 (zcV (rst s a))
 have hv:zac (rst s a)=⟨3,ByteArray.empty,r,0,n,o⟩:=by
  unfold zac
  rw [hb0,hc,if_neg (by decide),if_neg (by decide),if_neg (by decide),if_pos rfl,hq]
 have hqr:=zlp s hs a ha
 rw [hq] at hqr
 have hle:=zjo (rst s a) (by rw [zah];omega)
 rw [hq,zah] at hle
 have hn1:1≤n∧a+n≤s.size:=by have:1≤n∧n≤s.size - a:=hle;omega
 have hpl:a+n - 1 < s.size:=by omega
 have hcl:=zaX s (a+n - 1)
 have hgp:=zaz s (a+n - 1) hpl
 obtain ⟨d,ed⟩:∃ d,(s[a+n - 1]'hpl).toNat=d:=⟨_,rfl⟩
 rw [hgp,ed] at hcl
 have HCL:=kz (zb8 d hcl)
 have hei:(a:Int)+(n:Int) - 1=((a+n - 1:Nat):Int):=by omega
 have hel:((a+n - 1:Nat):Int) < (s.size:Int):=by omega
 have hen:(a:Int)+(n:Int)≤(s.size:Int):=by omega
 clear hle hgp
 rw [hv]
 have hgb:=zaz s a ha
 rw [hc] at hgb
 have hl:(a:Int) < (s.size:Int):=by omega
 have HQ:=kz hqr
 have hgb':(s[a]'ha).toNat=39:=hgb.symm
 have HV:=kz hv
 clear hv hb0 hc hgb hq hqr
 go_enter Tryz.func81,Tryz.ntmps81
 go_wp2_with fail
 have hst0:=zbq w a
 generalize (w.alloc (.cells (wz (.int .i64 0)) 123)).alloc (.cells (wz (.int .i64 a)) 123)=W0 at *
 have HST:=kz hst0
 clear hst0
 refine (zba 39 39 rfl (by decide) false (by decide) _).mono ?_
 rintro e w1 ⟨rfl,rfl⟩
 go_wp2_with fail
 refine (zbn 39 39 rfl (by decide) false (by decide) _).mono ?_
 rintro e w1 ⟨rfl,rfl⟩
 have hcu:=(oz HST).cur
 have k0:=hcu.cell 0
 have f0:=hcu.frozen 0
 have f2:=(hcu.set 0 (.int .i64 3)).frozen 2
 have k2:=(hcu.set 0 (.int .i64 3)).cell 2
 clear hcu
 go_wp2_with fail
 refine (oz HQ _).mono ?_
 rintro e w1 ⟨rfl,rfl⟩
 have h2:=((oz HST).set 0 (.int .i64 3)).set 2 (.int .i32 r)
 have r0:=h2.res.cell 0
 have r1:=h2.res.cell 1
 have r2:=h2.res.cell 2
 have r3:=h2.res.cell 3
 have r4:=h2.res.cell 4
 have r5:=h2.res.cell 5
 have rf0:=h2.res.frozen 0
 have rf1:=h2.res.frozen 1
 have rf2:=h2.res.frozen 2
 have rf3:=h2.res.frozen 3
 have rf4:=h2.res.frozen 4
 have rf5:=h2.res.frozen 5
 have c5:=h2.cur.cell 5
 have cf5:=h2.cur.frozen 5
 cases o
 ·have hfin:=h2.fin (.int .i64 0) (.string ⟨#[]⟩) (.int .i32 0) (.int .i64 0) (.int .i64 0) (.int .i64 0)
  have HFIN:=kz hfin
  clear hfin h2
  go_wp2_with fail
  have hfin:=oz HFIN
  have e0:=hfin.1.cell 0
  have e1:=hfin.1.cell 1
  have e2:=hfin.1.cell 2
  have e3:=hfin.1.cell 3
  have e4:=hfin.1.cell 4
  have e5:=hfin.1.cell 5
  have HB:=kz hfin.2
  exact bodyPost_ret (v := .tuple #[.agg (wz (.int .i64 0)),.int .i64 ((a:Int)+(n:Int)),.bool false]) (by simp [results,Tryz.results81,go_sem,e0,e1,e2,e3,e4,e5]) rfl ⟨_,rfl,(fun q =>by cases q),⟨_,_,_,_,_,_,rfl⟩,oz HB⟩
 ·have h3:=h2.set 5 (.int .i64 ((a:Int)+(n:Int)))
  have g0:=h3.cur.cell 0
  have g1:=h3.cur.cell 1
  have g2:=h3.cur.cell 2
  have g3:=h3.cur.cell 3
  have g4:=h3.cur.cell 4
  have g5:=h3.cur.cell 5
  have hfin:=h3.fin (.int .i64 3) (.string ⟨#[]⟩) (.int .i32 r) (.int .i64 0) (.int .i64 a) (.int .i64 ((a:Int)+(n:Int)))
  have HFIN:=kz hfin
  have HG:=kz (And.intro g0 (And.intro g1 (And.intro g2 (And.intro g3 (And.intro g4 g5)))))
  clear hfin h2 h3 g0 g1 g2 g3 g4 g5
  go_wp2_with fail
  refine (oz HCL _).mono ?_
  rintro e w1 ⟨rfl,rfl⟩
  obtain ⟨g0,g1,g2,g3,g4,g5⟩:=oz HG
  cases zdN d
  all_goals
   go_wp2_with fail
   have hfin:=oz HFIN
   have e0:=hfin.1.cell 0
   have e1:=hfin.1.cell 1
   have e2:=hfin.1.cell 2
   have e3:=hfin.1.cell 3
   have e4:=hfin.1.cell 4
   have e5:=hfin.1.cell 5
   have HB:=kz hfin.2
   exact bodyPost_ret (v := .tuple #[zcs ⟨3,ByteArray.empty,r,0,n,true⟩ a,.int .i64 ((a:Int)+(n:Int)),.bool true]) (by simp [results,Tryz.results81,go_sem,e0,e1,e2,e3,e4,e5];first | rfl | exact ⟨rfl,by omega⟩) rfl ⟨_,rfl,by first | exact fun _ =>rfl | rfl,⟨_,_,_,_,_,_,rfl⟩,oz HB⟩
set_option maxRecDepth 100000 in
set_option maxHeartbeats 8000000 in
theorem word_open (s:ByteArray) (hs:s.size≤1099511627776) (a:Nat) (ha:a < s.size) (hc:bt s a=123) (w:World):Calls Tryz.prog 81 #[.string s,.int .i64 a] w fun e w' => ∃ V,e=.returned (.tuple #[V,.int .i64 ((a+(zac (rst s a)).n:Nat):Int),.bool (zac (rst s a)).ok])∧((zac (rst s a)).ok=true→V=zcs (zac (rst s a)) a)∧IsW V∧Below w.heap.size w w':=by
 have hb0:bt (rst s a) 0=bt s a:=zaK s a 0 (by omega)
 have hv:zac (rst s a)=⟨4,ByteArray.empty,0,0,1,true⟩:=by
  unfold zac zck
  rw [hb0,hc]
  rfl
 rw [hv]
 have hgb:=zaz s a ha
 rw [hc] at hgb
 have hl:(a:Int) < (s.size:Int):=by omega
 have hgb':(s[a]'ha).toNat=123:=hgb.symm
 have hei:(a:Int)+1 - 1=(a:Int):=by omega
 clear hv hb0 hc hgb
 go_enter Tryz.func81,Tryz.ntmps81
 go_wp2_with fail
 have hst0:=zbq w a
 generalize (w.alloc (.cells (wz (.int .i64 0)) 123)).alloc (.cells (wz (.int .i64 a)) 123)=W0 at *
 have HST:=kz hst0
 clear hst0
 refine (zba 123 123 rfl (by decide) false (by decide) _).mono ?_
 rintro e w1 ⟨rfl,rfl⟩
 go_wp2_with fail
 refine (zbn 123 123 rfl (by decide) false (by decide) _).mono ?_
 rintro e w1 ⟨rfl,rfl⟩
 have hcu:=(oz HST).cur
 have k0:=hcu.cell 0
 have f0:=hcu.frozen 0
 clear hcu
 go_wp2_with fail
 refine wp_loop_rounds 6 ?_
 iterate 6
   rw [rounds_succ]
   go_wp2_with fail
 refine (zds 123 123 rfl (by decide) false (by decide) _).mono ?_
 rintro e w1 ⟨rfl,rfl⟩
 have h2:=((oz HST).set 0 (.int .i64 4))
 have r0:=h2.res.cell 0
 have r1:=h2.res.cell 1
 have r2:=h2.res.cell 2
 have r3:=h2.res.cell 3
 have r4:=h2.res.cell 4
 have r5:=h2.res.cell 5
 have rf0:=h2.res.frozen 0
 have rf1:=h2.res.frozen 1
 have rf2:=h2.res.frozen 2
 have rf3:=h2.res.frozen 3
 have rf4:=h2.res.frozen 4
 have rf5:=h2.res.frozen 5
 have c5:=h2.cur.cell 5
 have cf5:=h2.cur.frozen 5
 have h3:=h2.set 5 (.int .i64 ((a:Int)+(1:Int)))
 have g0:=h3.cur.cell 0
 have g1:=h3.cur.cell 1
 have g2:=h3.cur.cell 2
 have g3:=h3.cur.cell 3
 have g4:=h3.cur.cell 4
 have g5:=h3.cur.cell 5
 have hfin:=h3.fin (.int .i64 4) (.string (⟨#[]⟩:ByteArray)) (.int .i32 0) (.int .i64 0) (.int .i64 a) (.int .i64 ((a:Int)+(1:Int)))
 have HFIN:=kz hfin
 clear hfin h2 h3
 go_wp2_with fail
 have hfin:=oz HFIN
 have e0:=hfin.1.cell 0
 have e1:=hfin.1.cell 1
 have e2:=hfin.1.cell 2
 have e3:=hfin.1.cell 3
 have e4:=hfin.1.cell 4
 have e5:=hfin.1.cell 5
 have HB:=kz hfin.2
 exact bodyPost_ret (v := .tuple #[zcs ⟨4,ByteArray.empty,0,0,1,true⟩ a,.int .i64 ((a:Int)+(1:Int)),.bool true]) (by simp [results,Tryz.results81,go_sem,e0,e1,e2,e3,e4,e5];first | rfl | exact ⟨rfl,by omega⟩) rfl ⟨_,rfl,by first | exact fun _ =>rfl | rfl,⟨_,_,_,_,_,_,rfl⟩,oz HB⟩
set_option maxRecDepth 100000 in
set_option maxHeartbeats 8000000 in
theorem word_shut (s:ByteArray) (hs:s.size≤1099511627776) (a:Nat) (ha:a < s.size) (hc:bt s a=125) (w:World):Calls Tryz.prog 81 #[.string s,.int .i64 a] w fun e w' => ∃ V,e=.returned (.tuple #[V,.int .i64 ((a+(zac (rst s a)).n:Nat):Int),.bool (zac (rst s a)).ok])∧((zac (rst s a)).ok=true→V=zcs (zac (rst s a)) a)∧IsW V∧Below w.heap.size w w':=by
 have hb0:bt (rst s a) 0=bt s a:=zaK s a 0 (by omega)
 have hv:zac (rst s a)=⟨5,ByteArray.empty,0,0,1,true⟩:=by
  unfold zac zck
  rw [hb0,hc]
  rfl
 rw [hv]
 have hgb:=zaz s a ha
 rw [hc] at hgb
 have hl:(a:Int) < (s.size:Int):=by omega
 have hgb':(s[a]'ha).toNat=125:=hgb.symm
 have hei:(a:Int)+1 - 1=(a:Int):=by omega
 clear hv hb0 hc hgb
 go_enter Tryz.func81,Tryz.ntmps81
 go_wp2_with fail
 have hst0:=zbq w a
 generalize (w.alloc (.cells (wz (.int .i64 0)) 123)).alloc (.cells (wz (.int .i64 a)) 123)=W0 at *
 have HST:=kz hst0
 clear hst0
 refine (zba 125 125 rfl (by decide) false (by decide) _).mono ?_
 rintro e w1 ⟨rfl,rfl⟩
 go_wp2_with fail
 refine (zbn 125 125 rfl (by decide) false (by decide) _).mono ?_
 rintro e w1 ⟨rfl,rfl⟩
 have hcu:=(oz HST).cur
 have k0:=hcu.cell 0
 have f0:=hcu.frozen 0
 clear hcu
 go_wp2_with fail
 refine wp_loop_rounds 6 ?_
 iterate 6
   rw [rounds_succ]
   go_wp2_with fail
 refine (zds 125 125 rfl (by decide) false (by decide) _).mono ?_
 rintro e w1 ⟨rfl,rfl⟩
 have h2:=((oz HST).set 0 (.int .i64 5))
 have r0:=h2.res.cell 0
 have r1:=h2.res.cell 1
 have r2:=h2.res.cell 2
 have r3:=h2.res.cell 3
 have r4:=h2.res.cell 4
 have r5:=h2.res.cell 5
 have rf0:=h2.res.frozen 0
 have rf1:=h2.res.frozen 1
 have rf2:=h2.res.frozen 2
 have rf3:=h2.res.frozen 3
 have rf4:=h2.res.frozen 4
 have rf5:=h2.res.frozen 5
 have c5:=h2.cur.cell 5
 have cf5:=h2.cur.frozen 5
 have h3:=h2.set 5 (.int .i64 ((a:Int)+(1:Int)))
 have g0:=h3.cur.cell 0
 have g1:=h3.cur.cell 1
 have g2:=h3.cur.cell 2
 have g3:=h3.cur.cell 3
 have g4:=h3.cur.cell 4
 have g5:=h3.cur.cell 5
 have hfin:=h3.fin (.int .i64 5) (.string (⟨#[]⟩:ByteArray)) (.int .i32 0) (.int .i64 0) (.int .i64 a) (.int .i64 ((a:Int)+(1:Int)))
 have HFIN:=kz hfin
 clear hfin h2 h3
 go_wp2_with fail
 have hfin:=oz HFIN
 have e0:=hfin.1.cell 0
 have e1:=hfin.1.cell 1
 have e2:=hfin.1.cell 2
 have e3:=hfin.1.cell 3
 have e4:=hfin.1.cell 4
 have e5:=hfin.1.cell 5
 have HB:=kz hfin.2
 exact bodyPost_ret (v := .tuple #[zcs ⟨5,ByteArray.empty,0,0,1,true⟩ a,.int .i64 ((a:Int)+(1:Int)),.bool true]) (by simp [results,Tryz.results81,go_sem,e0,e1,e2,e3,e4,e5];first | rfl | exact ⟨rfl,by omega⟩) rfl ⟨_,rfl,by first | exact fun _ =>rfl | rfl,⟨_,_,_,_,_,_,rfl⟩,oz HB⟩
set_option maxRecDepth 100000 in
set_option maxHeartbeats 8000000 in
theorem word_semi (s:ByteArray) (hs:s.size≤1099511627776) (a:Nat) (ha:a < s.size) (hc:bt s a=59) (w:World):Calls Tryz.prog 81 #[.string s,.int .i64 a] w fun e w' => ∃ V,e=.returned (.tuple #[V,.int .i64 ((a+(zac (rst s a)).n:Nat):Int),.bool (zac (rst s a)).ok])∧((zac (rst s a)).ok=true→V=zcs (zac (rst s a)) a)∧IsW V∧Below w.heap.size w w':=by
 have hb0:bt (rst s a) 0=bt s a:=zaK s a 0 (by omega)
 have hv:zac (rst s a)=⟨6,ByteArray.empty,0,0,1,true⟩:=by
  unfold zac zck
  rw [hb0,hc]
  rfl
 rw [hv]
 have hgb:=zaz s a ha
 rw [hc] at hgb
 have hl:(a:Int) < (s.size:Int):=by omega
 have hgb':(s[a]'ha).toNat=59:=hgb.symm
 have hei:(a:Int)+1 - 1=(a:Int):=by omega
 clear hv hb0 hc hgb
 go_enter Tryz.func81,Tryz.ntmps81
 go_wp2_with fail
 have hst0:=zbq w a
 generalize (w.alloc (.cells (wz (.int .i64 0)) 123)).alloc (.cells (wz (.int .i64 a)) 123)=W0 at *
 have HST:=kz hst0
 clear hst0
 refine (zba 59 59 rfl (by decide) false (by decide) _).mono ?_
 rintro e w1 ⟨rfl,rfl⟩
 go_wp2_with fail
 refine (zbn 59 59 rfl (by decide) false (by decide) _).mono ?_
 rintro e w1 ⟨rfl,rfl⟩
 have hcu:=(oz HST).cur
 have k0:=hcu.cell 0
 have f0:=hcu.frozen 0
 clear hcu
 go_wp2_with fail
 refine wp_loop_rounds 6 ?_
 iterate 6
   rw [rounds_succ]
   go_wp2_with fail
 refine (zds 59 59 rfl (by decide) false (by decide) _).mono ?_
 rintro e w1 ⟨rfl,rfl⟩
 have h2:=((oz HST).set 0 (.int .i64 6))
 have r0:=h2.res.cell 0
 have r1:=h2.res.cell 1
 have r2:=h2.res.cell 2
 have r3:=h2.res.cell 3
 have r4:=h2.res.cell 4
 have r5:=h2.res.cell 5
 have rf0:=h2.res.frozen 0
 have rf1:=h2.res.frozen 1
 have rf2:=h2.res.frozen 2
 have rf3:=h2.res.frozen 3
 have rf4:=h2.res.frozen 4
 have rf5:=h2.res.frozen 5
 have c5:=h2.cur.cell 5
 have cf5:=h2.cur.frozen 5
 have h3:=h2.set 5 (.int .i64 ((a:Int)+(1:Int)))
 have g0:=h3.cur.cell 0
 have g1:=h3.cur.cell 1
 have g2:=h3.cur.cell 2
 have g3:=h3.cur.cell 3
 have g4:=h3.cur.cell 4
 have g5:=h3.cur.cell 5
 have hfin:=h3.fin (.int .i64 6) (.string (⟨#[]⟩:ByteArray)) (.int .i32 0) (.int .i64 0) (.int .i64 a) (.int .i64 ((a:Int)+(1:Int)))
 have HFIN:=kz hfin
 clear hfin h2 h3
 go_wp2_with fail
 have hfin:=oz HFIN
 have e0:=hfin.1.cell 0
 have e1:=hfin.1.cell 1
 have e2:=hfin.1.cell 2
 have e3:=hfin.1.cell 3
 have e4:=hfin.1.cell 4
 have e5:=hfin.1.cell 5
 have HB:=kz hfin.2
 exact bodyPost_ret (v := .tuple #[zcs ⟨6,ByteArray.empty,0,0,1,true⟩ a,.int .i64 ((a:Int)+(1:Int)),.bool true]) (by simp [results,Tryz.results81,go_sem,e0,e1,e2,e3,e4,e5];first | rfl | exact ⟨rfl,by omega⟩) rfl ⟨_,rfl,by first | exact fun _ =>rfl | rfl,⟨_,_,_,_,_,_,rfl⟩,oz HB⟩
end Go.Proofs.YtmdgejgokoadlaaGreatDoor
