/- Texts of this claim, one behind the other. -/
import Derived.Test.YtmdgejgokoadlaaGreatDoorM22
import Derived.Test.YtmdgejgokoadlaaGreatDoorRrK
import Derived.Test.YtmdgejgokoadlaaGreatDoorRrJ
import Derived.Test.YtmdgejgokoadlaaGreatDoorM15
import Derived.Test.YtmdgejgokoadlaaGreatDoorM2
import Derived.Test.YtmdgejgokoadlaaGreatDoorM10
/- The reference's reader of rules: one rule, whatever it is. -/
namespace Go.Proofs.YtmdgejgokoadlaaGreatDoor
open Go.RowKit Go.Shelf
set_option linter.unusedVariables false
def lsR (T:TV) (us:List Value):List Ln :=
 Ln.mk 71 2 T.sc.length (zbQ T.sc us)::Ln.mk 73 2 T.co.length (zap T.co)::Ln.mk 93 2 T.ma.length (zco T.ma)::Ln.mk 96 3 T.pr.length (zch T.pr)::Ln.mk 75 2 T.fo.length (zbu T.fo)::Ln.mk 75 2 T.lk.length (zbu T.lk)::Ln.mk 73 2 T.dr.length (zap T.dr)::Ln.mk 73 2 T.al.length (zap T.al) ::
 Ln.mk 3 1 0 []::Ln.mk 3 1 T.r1.length (zbw T.r1)::Ln.mk 3 1 T.r2.length (zbw T.r2)::Ln.mk 3 1 T.r3.length (zbw T.r3)::Ln.mk 3 1 T.r4.length (zbw T.r4)::Ln.mk 3 1 T.r5.length (zbw T.r5)::Ln.mk 3 1 T.r6.length (zbw T.r6)::Ln.mk 3 1 T.r7.length (zbw T.r7)::Ln.mk 3 1 T.r8.length (zbw T.r8) ::
 T.sc.map (fun s =>Ln.mk 73 2 s.2.length (zap s.2))
theorem lsR_len (T:TV) (us:List Value):(lsR T us).length=T.sc.length+17:=by
 unfold lsR
 simp only [List.length_cons,List.length_map]
def zfR (W0 w:World) (lo R g:Nat) (a:Option Addr) (c:Nat) (ws:List W8) (k:Nat) (bi:Int) (T:TV):Prop := ∃ vs,RrAt w lo R g a c ws k bi vs (lsR T (vs.drop 17))∧Fr lo R R W0 w
def BadE (ws:List W8) (eb el ec:Int) (bi:Int):Option Rf→Prop
 | none =>bi = -1
 | some f => ∃ j:Nat,j≤ws.length∧bi=j∧f=zeA ws j eb el ec
theorem BadR.e {ws:List W8} {k:Nat} {eb el ec bi:Int} {bad:Option Rf} (h:BadR ws k eb el ec bi bad) (hk:k≤ws.length):BadE ws eb el ec bi bad:=by
 cases bad with
 | none =>exact h
 | some f =>exact ⟨k,hk,h.1,h.2⟩
theorem zi4 {W:World} {lo R g:Nat} {a:Option Addr} {c:Nat} {ws:List W8} {k:Nat} {bi:Int} {vs:List Value} {ls:List Ln} (h:RrAt W lo R g a c ws k bi vs ls) (i:Nat) (hi:i < 17):∃ v,vs[i]?=some v:=⟨vs[i]'(Nat.lt_of_lt_of_le hi h.lv),List.getElem?_eq_getElem _⟩
theorem rk_script (lo R g:Nat) (a:Option Addr) (c:Nat) (ws:List W8) (eb el ec:Int) (k:Nat) (x:W8) (T:TV) (hT:T.Le k) (hx:ws[k]?=some x) (hxk:x.k=1) (hr:x.S=⟨#[115,99,114,105,112,116]⟩) (W0 W:World) (h:zfR W0 W lo R g a c ws k (-1) T) :
  Calls Tryz.prog 47 #[.pointer (some ⟨R,0,none⟩)] W fun e w' =>(∃ r,e=.returned r)∧∃ b2,BadE ws eb el ec b2 (zau ws eb el ec k x T).bad∧zfR W0 w' lo R g a c ws (zau ws eb el ec k x T).k b2 (zau ws eb el ec k x T).T:=by
 obtain ⟨vs,h,hfr⟩:=h
 have hkn:=h.kn
 have hnm:=h.nmax
 have hlv:=h.lv
 have hll:=h.ll
 obtain ⟨v1,hv1⟩:=zi4 h 0 (by decide)
 obtain ⟨v2,hv2⟩:=zi4 h 9 (by decide)
 have hno:zaB x.S=1:=by rw [hr];rfl
 refine (zib lo R g a c ws k eb el ec vs _ x hx hxk hr v1 v2 T.sc.length T.r1.length (zbQ T.sc (vs.drop 17)) (zbw T.r1) (by have:=hT.sc;omega) (by have:=hT.r1;omega) hv1 rfl hv2 rfl W h).mono ?_
 rintro e w' ⟨h1,⟨u,va,vb,b2,hB,h2⟩,h3⟩
 refine ⟨h1,b2, ?_,((vs++[u]).set 0 va).set 9 vb, ?_,hfr.trans h3⟩
 ·unfold zau
  rw [hno]
  exact hB.e h2.kn
 ·rw [zg2 vs u 0 9 va vb (by omega) (by omega) hlv]
  have e1:T.sc.length=(vs.drop 17).length:=by
   rw [List.length_drop, ← hll,lsR_len]
   omega
  unfold zau
  rw [hno]
  simp only [zbi]
  unfold lsR
  dsimp only
  rw [zg0 _ _ _ _ e1,zc8,List.length_append,List.length_append,List.map_append]
  exact h2
theorem rk_common (lo R g:Nat) (a:Option Addr) (c:Nat) (ws:List W8) (eb el ec:Int) (k:Nat) (x:W8) (T:TV) (hT:T.Le k) (hx:ws[k]?=some x) (hxk:x.k=1) (hr:x.S=⟨#[99,111,109,109,111,110]⟩) (W0 W:World) (h:zfR W0 W lo R g a c ws k (-1) T) :
  Calls Tryz.prog 47 #[.pointer (some ⟨R,0,none⟩)] W fun e w' =>(∃ r,e=.returned r)∧∃ b2,BadE ws eb el ec b2 (zau ws eb el ec k x T).bad∧zfR W0 w' lo R g a c ws (zau ws eb el ec k x T).k b2 (zau ws eb el ec k x T).T:=by
 obtain ⟨vs,h,hfr⟩:=h
 have hkn:=h.kn
 have hnm:=h.nmax
 have hlv:=h.lv
 have hll:=h.ll
 obtain ⟨v1,hv1⟩:=zi4 h 1 (by decide)
 obtain ⟨v2,hv2⟩:=zi4 h 10 (by decide)
 have hno:zaB x.S=2:=by rw [hr];rfl
 refine (zid lo R g a c ws k eb el ec vs _ x hx hxk hr v1 v2 T.co.length T.r2.length (zap T.co) (zbw T.r2) (by have:=hT.co;omega) (by have:=hT.r2;omega) hv1 rfl hv2 rfl W h).mono ?_
 rintro e w' ⟨h1,⟨va,vb,b2,hB,h2⟩,h3⟩
 refine ⟨h1,b2, ?_,(vs.set 1 va).set 10 vb, ?_,hfr.trans h3⟩
 ·unfold zau
  rw [hno]
  exact hB.e h2.kn
 ·rw [zbd vs 1 10 va vb (by omega) (by omega)]
  unfold zau
  rw [hno]
  simp only [zbi]
  unfold lsR
  dsimp only
  rw [zdr,zc8,List.length_append,List.length_append]
  exact h2
theorem rk_mark (lo R g:Nat) (a:Option Addr) (c:Nat) (ws:List W8) (eb el ec:Int) (k:Nat) (x:W8) (T:TV) (hT:T.Le k) (hx:ws[k]?=some x) (hxk:x.k=1) (hr:x.S=⟨#[109,97,114,107]⟩) (W0 W:World) (h:zfR W0 W lo R g a c ws k (-1) T) :
  Calls Tryz.prog 47 #[.pointer (some ⟨R,0,none⟩)] W fun e w' =>(∃ r,e=.returned r)∧∃ b2,BadE ws eb el ec b2 (zau ws eb el ec k x T).bad∧zfR W0 w' lo R g a c ws (zau ws eb el ec k x T).k b2 (zau ws eb el ec k x T).T:=by
 obtain ⟨vs,h,hfr⟩:=h
 have hkn:=h.kn
 have hnm:=h.nmax
 have hlv:=h.lv
 have hll:=h.ll
 obtain ⟨v1,hv1⟩:=zi4 h 2 (by decide)
 obtain ⟨v2,hv2⟩:=zi4 h 11 (by decide)
 have hno:zaB x.S=3:=by rw [hr];rfl
 refine (zld lo R g a c ws k eb el ec vs _ x hx hxk hr v1 v2 T.ma.length T.r3.length (zco T.ma) (zbw T.r3) (by have:=hT.ma;omega) (by have:=hT.r3;omega) hv1 rfl hv2 rfl W h).mono ?_
 rintro e w' ⟨h1,⟨va,vb,b2,hB,h2⟩,h3⟩
 refine ⟨h1,b2, ?_,(vs.set 2 va).set 11 vb, ?_,hfr.trans h3⟩
 ·unfold zau
  rw [hno]
  exact hB.e h2.kn
 ·rw [zbd vs 2 11 va vb (by omega) (by omega)]
  unfold zau
  rw [hno]
  simp only [zbi]
  unfold lsR
  dsimp only
  rw [ziR,zc8,List.length_append,List.length_append]
  exact h2
theorem rk_pair (lo R g:Nat) (a:Option Addr) (c:Nat) (ws:List W8) (eb el ec:Int) (k:Nat) (x:W8) (T:TV) (hT:T.Le k) (hx:ws[k]?=some x) (hxk:x.k=1) (hr:x.S=⟨#[112,97,105,114]⟩) (W0 W:World) (h:zfR W0 W lo R g a c ws k (-1) T) :
  Calls Tryz.prog 47 #[.pointer (some ⟨R,0,none⟩)] W fun e w' =>(∃ r,e=.returned r)∧∃ b2,BadE ws eb el ec b2 (zau ws eb el ec k x T).bad∧zfR W0 w' lo R g a c ws (zau ws eb el ec k x T).k b2 (zau ws eb el ec k x T).T:=by
 obtain ⟨vs,h,hfr⟩:=h
 have hkn:=h.kn
 have hnm:=h.nmax
 have hlv:=h.lv
 have hll:=h.ll
 obtain ⟨v1,hv1⟩:=zi4 h 3 (by decide)
 obtain ⟨v2,hv2⟩:=zi4 h 12 (by decide)
 have hno:zaB x.S=4:=by rw [hr];rfl
 refine (zlc lo R g a c ws k eb el ec vs _ x hx hxk hr v1 v2 T.pr.length T.r4.length (zch T.pr) (zbw T.r4) (by have:=hT.pr;omega) (by have:=hT.r4;omega) hv1 rfl hv2 rfl W h).mono ?_
 rintro e w' ⟨h1,⟨va,vb,b2,hB,h2⟩,h3⟩
 refine ⟨h1,b2, ?_,(vs.set 3 va).set 12 vb, ?_,hfr.trans h3⟩
 ·unfold zau
  rw [hno]
  exact hB.e h2.kn
 ·rw [zbd vs 3 12 va vb (by omega) (by omega)]
  unfold zau
  rw [hno]
  simp only [zbi]
  unfold lsR
  dsimp only
  rw [ziQ,zc8,List.length_append,List.length_append]
  exact h2
theorem rk_fold (lo R g:Nat) (a:Option Addr) (c:Nat) (ws:List W8) (eb el ec:Int) (k:Nat) (x:W8) (T:TV) (hT:T.Le k) (hx:ws[k]?=some x) (hxk:x.k=1) (hr:x.S=⟨#[102,111,108,100]⟩) (W0 W:World) (h:zfR W0 W lo R g a c ws k (-1) T) :
  Calls Tryz.prog 47 #[.pointer (some ⟨R,0,none⟩)] W fun e w' =>(∃ r,e=.returned r)∧∃ b2,BadE ws eb el ec b2 (zau ws eb el ec k x T).bad∧zfR W0 w' lo R g a c ws (zau ws eb el ec k x T).k b2 (zau ws eb el ec k x T).T:=by
 obtain ⟨vs,h,hfr⟩:=h
 have hkn:=h.kn
 have hnm:=h.nmax
 have hlv:=h.lv
 have hll:=h.ll
 obtain ⟨v1,hv1⟩:=zi4 h 4 (by decide)
 obtain ⟨v2,hv2⟩:=zi4 h 13 (by decide)
 have hno:zaB x.S=5:=by rw [hr];rfl
 refine (zlf lo R g a c ws k eb el ec vs _ x hx hxk hr v1 v2 T.fo.length T.r5.length (zbu T.fo) (zbw T.r5) (by have:=hT.fo;omega) (by have:=hT.r5;omega) hv1 rfl hv2 rfl W h).mono ?_
 rintro e w' ⟨h1,⟨va,vb,b2,hB,h2⟩,h3⟩
 refine ⟨h1,b2, ?_,(vs.set 4 va).set 13 vb, ?_,hfr.trans h3⟩
 ·unfold zau
  rw [hno]
  exact hB.e h2.kn
 ·rw [zbd vs 4 13 va vb (by omega) (by omega)]
  unfold zau
  rw [hno]
  simp only [zbi]
  unfold lsR
  dsimp only
  rw [zeU,zc8,List.length_append,List.length_append]
  exact h2
theorem rk_look (lo R g:Nat) (a:Option Addr) (c:Nat) (ws:List W8) (eb el ec:Int) (k:Nat) (x:W8) (T:TV) (hT:T.Le k) (hx:ws[k]?=some x) (hxk:x.k=1) (hr:x.S=⟨#[108,111,111,107]⟩) (W0 W:World) (h:zfR W0 W lo R g a c ws k (-1) T) :
  Calls Tryz.prog 47 #[.pointer (some ⟨R,0,none⟩)] W fun e w' =>(∃ r,e=.returned r)∧∃ b2,BadE ws eb el ec b2 (zau ws eb el ec k x T).bad∧zfR W0 w' lo R g a c ws (zau ws eb el ec k x T).k b2 (zau ws eb el ec k x T).T:=by
 obtain ⟨vs,h,hfr⟩:=h
 have hkn:=h.kn
 have hnm:=h.nmax
 have hlv:=h.lv
 have hll:=h.ll
 obtain ⟨v1,hv1⟩:=zi4 h 5 (by decide)
 obtain ⟨v2,hv2⟩:=zi4 h 14 (by decide)
 have hno:zaB x.S=6:=by rw [hr];rfl
 refine (zle lo R g a c ws k eb el ec vs _ x hx hxk hr v1 v2 T.lk.length T.r6.length (zbu T.lk) (zbw T.r6) (by have:=hT.lk;omega) (by have:=hT.r6;omega) hv1 rfl hv2 rfl W h).mono ?_
 rintro e w' ⟨h1,⟨va,vb,b2,hB,h2⟩,h3⟩
 refine ⟨h1,b2, ?_,(vs.set 5 va).set 14 vb, ?_,hfr.trans h3⟩
 ·unfold zau
  rw [hno]
  exact hB.e h2.kn
 ·rw [zbd vs 5 14 va vb (by omega) (by omega)]
  unfold zau
  rw [hno]
  simp only [zbi]
  unfold lsR
  dsimp only
  rw [zeU,zc8,List.length_append,List.length_append]
  exact h2
theorem rk_drop (lo R g:Nat) (a:Option Addr) (c:Nat) (ws:List W8) (eb el ec:Int) (k:Nat) (x:W8) (T:TV) (hT:T.Le k) (hx:ws[k]?=some x) (hxk:x.k=1) (hr:x.S=⟨#[100,114,111,112]⟩) (W0 W:World) (h:zfR W0 W lo R g a c ws k (-1) T) :
  Calls Tryz.prog 47 #[.pointer (some ⟨R,0,none⟩)] W fun e w' =>(∃ r,e=.returned r)∧∃ b2,BadE ws eb el ec b2 (zau ws eb el ec k x T).bad∧zfR W0 w' lo R g a c ws (zau ws eb el ec k x T).k b2 (zau ws eb el ec k x T).T:=by
 obtain ⟨vs,h,hfr⟩:=h
 have hkn:=h.kn
 have hnm:=h.nmax
 have hlv:=h.lv
 have hll:=h.ll
 obtain ⟨v1,hv1⟩:=zi4 h 6 (by decide)
 obtain ⟨v2,hv2⟩:=zi4 h 15 (by decide)
 have hno:zaB x.S=7:=by rw [hr];rfl
 refine (zlg lo R g a c ws k eb el ec vs _ x hx hxk hr v1 v2 T.dr.length T.r7.length (zap T.dr) (zbw T.r7) (by have:=hT.dr;omega) (by have:=hT.r7;omega) hv1 rfl hv2 rfl W h).mono ?_
 rintro e w' ⟨h1,⟨va,vb,b2,hB,h2⟩,h3⟩
 refine ⟨h1,b2, ?_,(vs.set 6 va).set 15 vb, ?_,hfr.trans h3⟩
 ·unfold zau
  rw [hno]
  exact hB.e h2.kn
 ·rw [zbd vs 6 15 va vb (by omega) (by omega)]
  unfold zau
  rw [hno]
  simp only [zbi]
  unfold lsR
  dsimp only
  rw [zdr,zc8,List.length_append,List.length_append]
  exact h2
theorem rk_allow (lo R g:Nat) (a:Option Addr) (c:Nat) (ws:List W8) (eb el ec:Int) (k:Nat) (x:W8) (T:TV) (hT:T.Le k) (hx:ws[k]?=some x) (hxk:x.k=1) (hr:x.S=⟨#[97,108,108,111,119]⟩) (W0 W:World) (h:zfR W0 W lo R g a c ws k (-1) T) :
  Calls Tryz.prog 47 #[.pointer (some ⟨R,0,none⟩)] W fun e w' =>(∃ r,e=.returned r)∧∃ b2,BadE ws eb el ec b2 (zau ws eb el ec k x T).bad∧zfR W0 w' lo R g a c ws (zau ws eb el ec k x T).k b2 (zau ws eb el ec k x T).T:=by
 obtain ⟨vs,h,hfr⟩:=h
 have hkn:=h.kn
 have hnm:=h.nmax
 have hlv:=h.lv
 have hll:=h.ll
 obtain ⟨v1,hv1⟩:=zi4 h 7 (by decide)
 obtain ⟨v2,hv2⟩:=zi4 h 16 (by decide)
 have hno:zaB x.S=8:=by rw [hr];rfl
 refine (zjf lo R g a c ws k eb el ec vs _ x hx hxk hr v1 v2 T.al.length T.r8.length (zap T.al) (zbw T.r8) (by have:=hT.al;omega) (by have:=hT.r8;omega) hv1 rfl hv2 rfl W h).mono ?_
 rintro e w' ⟨h1,⟨va,vb,b2,hB,h2⟩,h3⟩
 refine ⟨h1,b2, ?_,(vs.set 7 va).set 16 vb, ?_,hfr.trans h3⟩
 ·unfold zau
  rw [hno]
  exact hB.e h2.kn
 ·rw [zbd vs 7 16 va vb (by omega) (by omega)]
  unfold zau
  rw [hno]
  simp only [zbi]
  unfold lsR
  dsimp only
  rw [zdr,zc8,List.length_append,List.length_append]
  exact h2
theorem rk_any (lo R g:Nat) (a:Option Addr) (c:Nat) (ws:List W8) (eb el ec:Int) (k:Nat) (x:W8) (T:TV) (hT:T.Le k) (hx:ws[k]?=some x) (hxk:x.k=1) (hr:zaB x.S≠0) (W0 W:World) (h:zfR W0 W lo R g a c ws k (-1) T) :
  Calls Tryz.prog 47 #[.pointer (some ⟨R,0,none⟩)] W fun e w' =>(∃ r,e=.returned r)∧∃ b2,BadE ws eb el ec b2 (zau ws eb el ec k x T).bad∧zfR W0 w' lo R g a c ws (zau ws eb el ec k x T).k b2 (zau ws eb el ec k x T).T:=by
 by_cases h1:x.S=⟨#[115,99,114,105,112,116]⟩
 ·exact rk_script lo R g a c ws eb el ec k x T hT hx hxk h1 W0 W h
 by_cases h2:x.S=⟨#[99,111,109,109,111,110]⟩
 ·exact rk_common lo R g a c ws eb el ec k x T hT hx hxk h2 W0 W h
 by_cases h3:x.S=⟨#[109,97,114,107]⟩
 ·exact rk_mark lo R g a c ws eb el ec k x T hT hx hxk h3 W0 W h
 by_cases h4:x.S=⟨#[112,97,105,114]⟩
 ·exact rk_pair lo R g a c ws eb el ec k x T hT hx hxk h4 W0 W h
 by_cases h5:x.S=⟨#[102,111,108,100]⟩
 ·exact rk_fold lo R g a c ws eb el ec k x T hT hx hxk h5 W0 W h
 by_cases h6:x.S=⟨#[108,111,111,107]⟩
 ·exact rk_look lo R g a c ws eb el ec k x T hT hx hxk h6 W0 W h
 by_cases h7:x.S=⟨#[100,114,111,112]⟩
 ·exact rk_drop lo R g a c ws eb el ec k x T hT hx hxk h7 W0 W h
 by_cases h8:x.S=⟨#[97,108,108,111,119]⟩
 ·exact rk_allow lo R g a c ws eb el ec k x T hT hx hxk h8 W0 W h
 exact absurd (by unfold zaB;rw [if_neg h1,if_neg h2,if_neg h3,if_neg h4,if_neg h5,if_neg h6,if_neg h7,if_neg h8]) hr
theorem rk_no (lo R g:Nat) (a:Option Addr) (c:Nat) (ws:List W8) (eb el ec:Int) (k:Nat) (x:W8) (T:TV) (hx:ws[k]?=some x) (hr:zaB x.S=0) (W0 W:World) (h:zfR W0 W lo R g a c ws k (-1) T) :
  Calls Tryz.prog 47 #[.pointer (some ⟨R,0,none⟩)] W fun e w' =>(∃ r,e=.returned r)∧∃ k',k≤k'∧zfR W0 w' lo R g a c ws k' k T:=by
 obtain ⟨vs,h,hfr⟩:=h
 by_cases hxk:x.k=1
 ·refine (zht lo R g a c ws k eb el ec vs _ x hx hxk hr W h).mono ?_
  rintro e w' ⟨h1,h2,h3⟩
  exact ⟨h1,k+1,by omega,vs,h2,hfr.trans h3⟩
 ·refine (zic lo R g a c ws k eb el ec vs _ x hx hxk W h).mono ?_
  rintro e w' ⟨h1,h2,h3⟩
  exact ⟨h1,k,by omega,vs,h2,hfr.trans h3⟩
end Go.Proofs.YtmdgejgokoadlaaGreatDoor
namespace Go.Proofs.YtmdgejgokoadlaaGreatDoor
open Go.RowKit Go.Shelf
open Go.Lib (decodeN decode_at)
set_option linter.unusedVariables false

theorem zbz {z:Int} (h:zag z≠0):Utf8.valid z=true∧0≤z∧z≤1114111∧¬ (55296≤z∧z≤57343):=by
 unfold zag at h
 split at h
 ·exact absurd rfl h
 ·rename_i hh
  refine ⟨?_,by omega,by omega,by omega⟩
  simp only [Utf8.valid,Bool.or_eq_true,Bool.and_eq_true,decide_eq_true_eq]
  omega

theorem enc1 {z:Int} (h:zag z≠0) (h1:z < 128):Utf8.encode z=⟨#[UInt8.ofNat z.toNat]⟩:=by
 obtain ⟨hv,h0,_,_⟩:=zbz h
 unfold Utf8.encode
 simp only [hv,if_true]
 rw [if_pos (by omega)]
theorem enc2 {z:Int} (h:zag z≠0) (h1:128≤z) (h2:z < 2048):Utf8.encode z=⟨#[UInt8.ofNat (0xC0+z.toNat / 64),UInt8.ofNat (0x80+z.toNat % 64)]⟩:=by
 obtain ⟨hv,h0,_,_⟩:=zbz h
 unfold Utf8.encode
 simp only [hv,if_true]
 rw [if_neg (by omega),if_pos (by omega)]
theorem enc3 {z:Int} (h:zag z≠0) (h1:2048≤z) (h2:z < 65536):Utf8.encode z=⟨#[UInt8.ofNat (0xE0+z.toNat / 4096),UInt8.ofNat (0x80+z.toNat / 64 % 64),UInt8.ofNat (0x80+z.toNat % 64)]⟩:=by
 obtain ⟨hv,h0,_,_⟩:=zbz h
 unfold Utf8.encode
 simp only [hv,if_true]
 rw [if_neg (by omega),if_neg (by omega),if_pos (by omega)]
theorem enc4 {z:Int} (h:zag z≠0) (h1:65536≤z):Utf8.encode z=⟨#[UInt8.ofNat (0xF0+z.toNat / 262144),UInt8.ofNat (0x80+z.toNat / 4096 % 64),UInt8.ofNat (0x80+z.toNat / 64 % 64),UInt8.ofNat (0x80+z.toNat % 64)]⟩:=by
 obtain ⟨hv,h0,_,_⟩:=zbz h
 unfold Utf8.encode
 simp only [hv,if_true]
 rw [if_neg (by omega),if_neg (by omega),if_neg (by omega)]
theorem u8n (n:Nat) (h:n < 256):(UInt8.ofNat n).toNat=n:=by rw [UInt8.toNat_ofNat'];omega

theorem zfi {z:Int} (h:zag z≠0):Utf8.decode (Utf8.encode z) 0=(z.toNat,(Utf8.encode z).size)∧((Utf8.encode z).size:Int)=zag z:=by
 obtain ⟨hv,h0,h1,h2⟩:=zbz h
 by_cases c1:z < 128
 ·rw [enc1 h c1]
  refine ⟨?_, ?_⟩
  ·rw [decode_at]
   have e0:((⟨#[UInt8.ofNat z.toNat]⟩:ByteArray).get! 0).toNat=z.toNat:=by show (UInt8.ofNat z.toNat).toNat=_;exact u8n _ (by omega)
   rw [e0]
   unfold decodeN
   rw [if_pos (by omega)]
   rfl
  ·unfold zag;rw [if_neg (by omega),if_pos (by omega)];rfl
 by_cases c2:z < 2048
 ·rw [enc2 h (by omega) c2]
  refine ⟨?_, ?_⟩
  ·rw [decode_at]
   have e0:((⟨#[UInt8.ofNat (0xC0+z.toNat / 64),UInt8.ofNat (0x80+z.toNat % 64)]⟩:ByteArray).get! 0).toNat=192+z.toNat / 64:=by show (UInt8.ofNat (0xC0+z.toNat / 64)).toNat=_;exact u8n _ (by omega)
   have e1:((⟨#[UInt8.ofNat (0xC0+z.toNat / 64),UInt8.ofNat (0x80+z.toNat % 64)]⟩:ByteArray).get! (0+1)).toNat=128+z.toNat % 64:=by show (UInt8.ofNat (0x80+z.toNat % 64)).toNat=_;exact u8n _ (by omega)
   rw [e0,e1]
   show decodeN 2 _ _ _ _=(_,2)
   unfold decodeN
   rw [if_neg (by omega),if_pos (by omega),if_pos (by omega)]
   rw [Prod.mk.injEq]
   exact ⟨by omega,rfl⟩
  ·unfold zag;rw [if_neg (by omega),if_neg (by omega),if_pos (by omega)];rfl
 by_cases c3:z < 65536
 ·rw [enc3 h (by omega) c3]
  refine ⟨?_, ?_⟩
  ·rw [decode_at]
   have e0:((⟨#[UInt8.ofNat (0xE0+z.toNat / 4096),UInt8.ofNat (0x80+z.toNat / 64 % 64),UInt8.ofNat (0x80+z.toNat % 64)]⟩:ByteArray).get! 0).toNat=224+z.toNat / 4096:=by show (UInt8.ofNat (0xE0+z.toNat / 4096)).toNat=_;exact u8n _ (by omega)
   have e1:((⟨#[UInt8.ofNat (0xE0+z.toNat / 4096),UInt8.ofNat (0x80+z.toNat / 64 % 64),UInt8.ofNat (0x80+z.toNat % 64)]⟩:ByteArray).get! (0+1)).toNat=128+z.toNat / 64 % 64:=by show (UInt8.ofNat (0x80+z.toNat / 64 % 64)).toNat=_;exact u8n _ (by omega)
   have e2:((⟨#[UInt8.ofNat (0xE0+z.toNat / 4096),UInt8.ofNat (0x80+z.toNat / 64 % 64),UInt8.ofNat (0x80+z.toNat % 64)]⟩:ByteArray).get! (0+2)).toNat=128+z.toNat % 64:=by show (UInt8.ofNat (0x80+z.toNat % 64)).toNat=_;exact u8n _ (by omega)
   rw [e0,e1,e2]
   show decodeN 3 _ _ _ _=(_,3)
   unfold decodeN
   rw [if_neg (by omega),if_neg (by omega),if_pos (by omega),if_pos (by omega)]
   rw [Prod.mk.injEq]
   exact ⟨by omega,rfl⟩
  ·unfold zag;rw [if_neg (by omega),if_neg (by omega),if_neg (by omega),if_pos (by omega)];rfl
 ·rw [enc4 h (by omega)]
  refine ⟨?_, ?_⟩
  ·rw [decode_at]
   have e0:((⟨#[UInt8.ofNat (0xF0+z.toNat / 262144),UInt8.ofNat (0x80+z.toNat / 4096 % 64),UInt8.ofNat (0x80+z.toNat / 64 % 64),UInt8.ofNat (0x80+z.toNat % 64)]⟩:ByteArray).get! 0).toNat=240+z.toNat / 262144:=by show (UInt8.ofNat (0xF0+z.toNat / 262144)).toNat=_;exact u8n _ (by omega)
   have e1:((⟨#[UInt8.ofNat (0xF0+z.toNat / 262144),UInt8.ofNat (0x80+z.toNat / 4096 % 64),UInt8.ofNat (0x80+z.toNat / 64 % 64),UInt8.ofNat (0x80+z.toNat % 64)]⟩:ByteArray).get! (0+1)).toNat=128+z.toNat / 4096 % 64:=by show (UInt8.ofNat (0x80+z.toNat / 4096 % 64)).toNat=_;exact u8n _ (by omega)
   have e2:((⟨#[UInt8.ofNat (0xF0+z.toNat / 262144),UInt8.ofNat (0x80+z.toNat / 4096 % 64),UInt8.ofNat (0x80+z.toNat / 64 % 64),UInt8.ofNat (0x80+z.toNat % 64)]⟩:ByteArray).get! (0+2)).toNat=128+z.toNat / 64 % 64:=by show (UInt8.ofNat (0x80+z.toNat / 64 % 64)).toNat=_;exact u8n _ (by omega)
   have e3:((⟨#[UInt8.ofNat (0xF0+z.toNat / 262144),UInt8.ofNat (0x80+z.toNat / 4096 % 64),UInt8.ofNat (0x80+z.toNat / 64 % 64),UInt8.ofNat (0x80+z.toNat % 64)]⟩:ByteArray).get! (0+3)).toNat=128+z.toNat % 64:=by show (UInt8.ofNat (0x80+z.toNat % 64)).toNat=_;exact u8n _ (by omega)
   rw [e0,e1,e2,e3]
   show decodeN 4 _ _ _ _=(_,4)
   unfold decodeN
   rw [if_neg (by omega),if_neg (by omega),if_neg (by omega),if_pos (by omega),if_pos (by omega)]
   rw [Prod.mk.injEq]
   exact ⟨by omega,rfl⟩
  ·unfold zag;rw [if_neg (by omega),if_neg (by omega),if_neg (by omega),if_neg (by omega)];rfl

theorem ze3 {z:Int} (h:zag z≠0):zaw (Utf8.encode z)=[0]∧zbe (Utf8.encode z) 0=false∧zaA (Utf8.encode z)=[z]:=by
 obtain ⟨hd,hw⟩:=zfi h
 obtain ⟨hv,h0,h1,h2⟩:=zbz h
 have hsz:1≤(Utf8.encode z).size:=by
  have:(0:Int)≤zag z:=by
   unfold zag
   repeat' split
   all_goals omega
  omega
 have hs:zaw (Utf8.encode z)=[0]:=by
  unfold zaw
  obtain ⟨m,hm⟩:∃ m,(Utf8.encode z).size=m+1:=⟨(Utf8.encode z).size - 1,by omega⟩
  have hwd:wd (Utf8.encode z) 0=(Utf8.encode z).size:=by simp only [wd];rw [hd]
  rw [hm,zas _ m 0 (by omega),hwd,zav _ _ _ (by omega)]
 refine ⟨hs, ?_, ?_⟩
 ·unfold zbe
  refine decide_eq_false ?_
  simp only [rn,wd,hd]
  rintro ⟨a,b⟩
  unfold zag at hw
  rw [b] at hw
  repeat' split at hw
  all_goals omega
 ·unfold zaA
  rw [hs]
  simp only [List.map_cons,List.map_nil,rn,hd]
  rw [Int.toNat_of_nonneg h0]

theorem zdV (z:Int) (zs:List Int):runesBytes (z::zs)=Utf8.encode z++runesBytes zs:=by
 have:=zf6 [z] zs
 rw [List.singleton_append] at this
 rw [this,show runesBytes [z]=Utf8.encode z by unfold runesBytes;simp]
theorem badB_both (s t:ByteArray) (hb:bdB (s++t) s.size=true) (h1:∀ i ∈ zaw s,zbe s i=false) (h2:∀ i ∈ zaw t,zbe t i=false):∀ i ∈ zaw (s++t),zbe (s++t) i=false:=by
 obtain ⟨e,hd⟩:=zeo s t hb
 rw [e]
 intro i hi
 rcases List.mem_append.1 hi with hi | hi
 ·rw [← h1 i hi]
  unfold zbe
  simp only [rn,wd,hd i hi]
 ·obtain ⟨j,hj,rfl⟩:=List.mem_map.1 hi
  rw [← h2 j hj]
  unfold zbe
  simp only [rn,wd,zb7]
theorem zgJ:∀ zs:List Int,(∀ z ∈ zs,zag z≠0)→zaA (runesBytes zs)=zs∧∀ i ∈ zaw (runesBytes zs),zbe (runesBytes zs) i=false
 | [],_ =>by
  have e:zaw (runesBytes [])=[]:=by decide
  exact ⟨by unfold zaA;rw [e];rfl,by rw [e];intro i hi;cases hi⟩
 | z::zs,h =>by
  obtain ⟨h1,h2⟩:=zgJ zs (fun y hy =>h y (by simp [hy]))
  obtain ⟨e1,e2,e3⟩:=ze3 (h z (by simp))
  have hv:∀ i ∈ zaw (Utf8.encode z),zbe (Utf8.encode z) i=false:=by rw [e1];intro i hi;simp at hi;rw [hi];exact e2
  have hj:=zcu (Utf8.encode z) (runesBytes zs) hv
  rw [zfN] at hj
  rw [zdV]
  exact ⟨by rw [zf4 _ _ hj,h1,e3];rfl,badB_both _ _ hj hv h2⟩

theorem zjk (s:ByteArray) (i:Nat):zag ((rn s i:Nat):Int)≠0:=by
 have t:=zcj s i
 have h1:=t.small
 have h2:=t.nosur
 unfold zag
 simp only [rn]
 rw [if_neg (by omega)]
 repeat' split
 all_goals decide
theorem zhN (n b0 b1 b2 b3:Nat) (h0:b0 < 256) (h1:b1 < 256) (h2:b2 < 256) (h3:b3 < 256) (hg:¬ ((decodeN n b0 b1 b2 b3).1=65533∧(decodeN n b0 b1 b2 b3).2=1)) :
  ((decodeN n b0 b1 b2 b3).2=1∧(decodeN n b0 b1 b2 b3).1=b0∧b0 < 128) ∨
  ((decodeN n b0 b1 b2 b3).2=2∧b0=192+(decodeN n b0 b1 b2 b3).1 / 64∧b1=128+(decodeN n b0 b1 b2 b3).1 % 64) ∨
  ((decodeN n b0 b1 b2 b3).2=3∧b0=224+(decodeN n b0 b1 b2 b3).1 / 4096∧b1=128+(decodeN n b0 b1 b2 b3).1 / 64 % 64∧b2=128+(decodeN n b0 b1 b2 b3).1 % 64) ∨
  ((decodeN n b0 b1 b2 b3).2=4∧b0=240+(decodeN n b0 b1 b2 b3).1 / 262144∧b1=128+(decodeN n b0 b1 b2 b3).1 / 4096 % 64∧b2=128+(decodeN n b0 b1 b2 b3).1 / 64 % 64∧b3=128+(decodeN n b0 b1 b2 b3).1 % 64):=by
 by_cases c0:b0 < 128
 ·have e:decodeN n b0 b1 b2 b3=(b0,1):=by unfold decodeN;rw [if_pos c0]
  rw [e];exact .inl ⟨rfl,rfl,c0⟩
 by_cases c2:b0 / 32=6∧(1 < n∧b1 / 64=2)
 ·by_cases hc:b0 % 32*64+b1 % 64 ≥ 128
  ·have e:decodeN n b0 b1 b2 b3=(b0 % 32*64+b1 % 64,2):=by unfold decodeN;rw [if_neg c0,if_pos c2,if_pos hc]
   rw [e];refine .inr (.inl ⟨rfl, ?_, ?_⟩) <;> simp only <;> omega
  ·have e:decodeN n b0 b1 b2 b3=(65533,1):=by unfold decodeN;rw [if_neg c0,if_pos c2,if_neg hc]
   rw [e] at hg;exact absurd ⟨rfl,rfl⟩ hg
 by_cases c3:b0 / 16=14∧(1 < n∧b1 / 64=2)∧(2 < n∧b2 / 64=2)
 ·by_cases hc:b0 % 16*4096+b1 % 64*64+b2 % 64 ≥ 2048∧(b0 % 16*4096+b1 % 64*64+b2 % 64 < 55296∨(57344≤b0 % 16*4096+b1 % 64*64+b2 % 64∧b0 % 16*4096+b1 % 64*64+b2 % 64≤1114111))
  ·have e:decodeN n b0 b1 b2 b3=(b0 % 16*4096+b1 % 64*64+b2 % 64,3):=by unfold decodeN;rw [if_neg c0,if_neg c2,if_pos c3,if_pos hc]
   rw [e];refine .inr (.inr (.inl ⟨rfl, ?_, ?_, ?_⟩)) <;> simp only <;> omega
  ·have e:decodeN n b0 b1 b2 b3=(65533,1):=by unfold decodeN;rw [if_neg c0,if_neg c2,if_pos c3,if_neg hc]
   rw [e] at hg;exact absurd ⟨rfl,rfl⟩ hg
 by_cases c4:b0 / 8=30∧(1 < n∧b1 / 64=2)∧(2 < n∧b2 / 64=2)∧(3 < n∧b3 / 64=2)
 ·by_cases hc:b0 % 8*262144+b1 % 64*4096+b2 % 64*64+b3 % 64 ≥ 65536∧(b0 % 8*262144+b1 % 64*4096+b2 % 64*64+b3 % 64 < 55296∨(57344≤b0 % 8*262144+b1 % 64*4096+b2 % 64*64+b3 % 64∧b0 % 8*262144+b1 % 64*4096+b2 % 64*64+b3 % 64≤1114111))
  ·have e:decodeN n b0 b1 b2 b3=(b0 % 8*262144+b1 % 64*4096+b2 % 64*64+b3 % 64,4):=by unfold decodeN;rw [if_neg c0,if_neg c2,if_neg c3,if_pos c4,if_pos hc]
   rw [e];refine .inr (.inr (.inr ⟨rfl, ?_, ?_, ?_, ?_⟩)) <;> simp only <;> omega
  ·have e:decodeN n b0 b1 b2 b3=(65533,1):=by unfold decodeN;rw [if_neg c0,if_neg c2,if_neg c3,if_pos c4,if_neg hc]
   rw [e] at hg;exact absurd ⟨rfl,rfl⟩ hg
 ·have e:decodeN n b0 b1 b2 b3=(65533,1):=by unfold decodeN;rw [if_neg c0,if_neg c2,if_neg c3,if_neg c4]
  rw [e] at hg;exact absurd ⟨rfl,rfl⟩ hg

theorem zev (u v:ByteArray) (hs:u.size=v.size) (h:∀ j,j < u.size→bt u j=bt v j):u=v:=by
 apply ByteArray.ext
 apply Array.ext
 ·exact hs
 ·intro j h1 h2
  have:=h j h1
  unfold bt at this
  rw [zcy u j h1,zcy v j h2] at this
  exact UInt8.toNat_inj.1 this
theorem enc_dec (s:ByteArray) (i:Nat) (hi:i < s.size) (hg:zbe s i=false):Utf8.encode ((rn s i:Nat):Int)=s.extract i (i+wd s i):=by
 have hg':¬ (rn s i=65533∧wd s i=1):=of_decide_eq_false hg
 have hr:=zbC s i hi
 have hw:=zjk s i
 have hwn:=zeZ s i hg'
 have key:=zhN (s.size - i) (bt s i) (bt s (i+1)) (bt s (i+2)) (bt s (i+3)) (zaX _ _) (zaX _ _) (zaX _ _) (zaX _ _)
 have e:decodeN (s.size - i) (bt s i) (bt s (i+1)) (bt s (i+2)) (bt s (i+3))=Utf8.decode s i:=(decode_at s i).symm
 rw [e] at key
 have key:=key hg'
 change (wd s i=1∧rn s i=bt s i∧_)∨(wd s i=2∧bt s i=192+rn s i / 64∧bt s (i+1)=128+rn s i % 64)∨(wd s i=3∧bt s i=224+rn s i / 4096∧bt s (i+1)=128+rn s i / 64 % 64∧bt s (i+2)=128+rn s i % 64)∨(wd s i=4∧bt s i=240+rn s i / 262144∧bt s (i+1)=128+rn s i / 4096 % 64∧bt s (i+2)=128+rn s i / 64 % 64∧bt s (i+3)=128+rn s i % 64) at key
 have hx:∀ j,j < wd s i→bt (s.extract i (i+wd s i)) j=bt s (i+j):=fun j hj =>by unfold bt;rw [zbt _ _ _ _ (by omega) hr]
 have hsz:(s.extract i (i+wd s i)).size=wd s i:=by rw [ByteArray.size_extract];omega
 have b0:=zaX s i
 have b1:=zaX s (i+1)
 have b2:=zaX s (i+2)
 have b3:=zaX s (i+3)
 generalize rn s i=r at *
 rcases key with ⟨k1,k2,k3⟩ | ⟨k1,k2,k3⟩ | ⟨k1,k2,k3,k4⟩ | ⟨k1,k2,k3,k4,k5⟩
 ·rw [enc1 hw (by omega)]
  refine zev _ _ (by rw [hsz,k1];rfl) (fun j hj =>?_)
  obtain rfl:j=0:=by have:j < 1:=hj;omega
  rw [hx 0 (by omega),Nat.add_zero]
  show (UInt8.ofNat ((r:Int).toNat)).toNat=_
  rw [u8n _ (by omega)];omega
 ·have hlo:128≤(r:Int)∧(r:Int) < 2048:=by
   rw [k1] at hwn
   unfold zag at hwn
   repeat' split at hwn
   all_goals omega
  rw [enc2 hw hlo.1 hlo.2]
  refine zev _ _ (by rw [hsz,k1];rfl) (fun j hj =>?_)
  have:j < 2:=hj
  have:j=0∨j=1:=by omega
  rcases this with rfl | rfl
  ·rw [hx 0 (by omega),Nat.add_zero]
   show (UInt8.ofNat (0xC0+(r:Int).toNat / 64)).toNat=_
   rw [u8n _ (by omega)];omega
  ·rw [hx 1 (by omega)]
   show (UInt8.ofNat (0x80+(r:Int).toNat % 64)).toNat=_
   rw [u8n _ (by omega)];omega
 ·have hlo:2048≤(r:Int)∧(r:Int) < 65536:=by
   rw [k1] at hwn
   unfold zag at hwn
   repeat' split at hwn
   all_goals omega
  rw [enc3 hw hlo.1 hlo.2]
  refine zev _ _ (by rw [hsz,k1];rfl) (fun j hj =>?_)
  have:j < 3:=hj
  have:j=0∨j=1∨j=2:=by omega
  rcases this with rfl | rfl | rfl
  ·rw [hx 0 (by omega),Nat.add_zero]
   show (UInt8.ofNat (0xE0+(r:Int).toNat / 4096)).toNat=_
   rw [u8n _ (by omega)];omega
  ·rw [hx 1 (by omega)]
   show (UInt8.ofNat (0x80+(r:Int).toNat / 64 % 64)).toNat=_
   rw [u8n _ (by omega)];omega
  ·rw [hx 2 (by omega)]
   show (UInt8.ofNat (0x80+(r:Int).toNat % 64)).toNat=_
   rw [u8n _ (by omega)];omega
 ·have hlo:65536≤(r:Int):=by
   rw [k1] at hwn
   unfold zag at hwn
   repeat' split at hwn
   all_goals omega
  rw [enc4 hw hlo]
  refine zev _ _ (by rw [hsz,k1];rfl) (fun j hj =>?_)
  have:j < 4:=hj
  have:j=0∨j=1∨j=2∨j=3:=by omega
  rcases this with rfl | rfl | rfl | rfl
  ·rw [hx 0 (by omega),Nat.add_zero]
   show (UInt8.ofNat (0xF0+(r:Int).toNat / 262144)).toNat=_
   rw [u8n _ (by omega)];omega
  ·rw [hx 1 (by omega)]
   show (UInt8.ofNat (0x80+(r:Int).toNat / 4096 % 64)).toNat=_
   rw [u8n _ (by omega)];omega
  ·rw [hx 2 (by omega)]
   show (UInt8.ofNat (0x80+(r:Int).toNat / 64 % 64)).toNat=_
   rw [u8n _ (by omega)];omega
  ·rw [hx 3 (by omega)]
   show (UInt8.ofNat (0x80+(r:Int).toNat % 64)).toNat=_
   rw [u8n _ (by omega)];omega

theorem zg7 (s:ByteArray):∀ f i,s.size≤i+f→i≤s.size→(∀ p ∈ zaj s f i,zbe s p=false)→runesBytes ((zaj s f i).map (fun p =>((rn s p:Nat):Int)))=s.extract i s.size
 | 0,i,hf,hi,h =>by
  rw [show i=s.size by omega]
  simp only [zaj,List.map_nil]
  rw [show s.extract s.size s.size=ByteArray.empty from by apply ByteArray.ext;simp]
  rfl
 | f+1,i,hf,hi,h =>by
  by_cases hlt:i < s.size
  ·have hw:=zbh s i
   have hr:=zbC s i hlt
   rw [zas s f i hlt] at h ⊢
   rw [List.map_cons,zdV,enc_dec s i hlt (h i (by simp)),zg7 s f (i+wd s i) (by omega) hr (fun p hp =>h p (by simp [hp]))]
   rw [ByteArray.extract_append_extract]
   congr 1 <;> omega
  ·rw [zav s _ _ hlt,show i=s.size by omega,show s.extract s.size s.size=ByteArray.empty from by apply ByteArray.ext;simp]
   rfl
theorem zjR (s:ByteArray) (h:∀ i ∈ zaw s,zbe s i=false):cleanV s=s:=by
 have:=zg7 s s.size 0 (by omega) (by omega) h
 unfold cleanV zaA zaw
 rw [this]
 exact ByteArray.extract_zero_size
end Go.Proofs.YtmdgejgokoadlaaGreatDoor
namespace Go.Proofs.YtmdgejgokoadlaaGreatDoor
open Go.RowKit Go.Shelf
set_option linter.unusedVariables false
def lcR (x:Nat × Nat) (zs:List Int):Nat × Nat:=zs.foldl (fun x z =>if z=10 then (x.1+1,1) else (x.1,x.2+1)) x
theorem zhE (x:Nat × Nat) (a b:List Int):lcR x (a++b)=lcR (lcR x a) b:=by simp [lcR]
theorem zeO (x:Nat × Nat) (z:Int) (b:List Int):lcR x (z::b)=lcR (if z=10 then (x.1+1,1) else (x.1,x.2+1)) b:=rfl
theorem lcR_nil (x:Nat × Nat):lcR x []=x:=rfl
theorem ziC (t:ByteArray):∀ (ps:List Nat) (x:Nat × Nat),lcF t x ps=lcR x (ps.map (fun i =>((rn t i:Nat):Int)))
 | [],x =>rfl
 | p::ps,x =>by
  show lcF t (zcQ t x p) ps=_
  rw [ziC t ps,List.map_cons,zeO]
  unfold zcQ
  by_cases h:rn t p=10
  ·rw [if_pos h,if_pos (by omega)]
  ·rw [if_neg h,if_neg (by omega)]
theorem lcF_all (t:ByteArray) (x:Nat × Nat):lcF t x (zaw t)=lcR x (zaA t):=ziC t _ x
theorem zkr:∀ (zs:List Int) (x:Nat × Nat),(lcR x zs).1=x.1+zs.count 10
 | [],x =>rfl
 | z::zs,x =>by
  rw [zeO,zkr zs]
  by_cases h:z=10
  ·rw [if_pos h,h,List.count_cons_self];show x.1+1+_=_;omega
  ·rw [if_neg h,List.count_cons_of_ne h]
theorem zhD:∀ (zs:List Int) (x:Nat × Nat),(10:Int) ∉ zs→lcR x zs=(x.1,x.2+zs.length)
 | [],x,_ =>rfl
 | z::zs,x,h =>by
  rw [List.mem_cons,not_or] at h
  rw [zeO,if_neg (fun e =>h.1 e.symm),zhD zs _ h.2,List.length_cons,Prod.mk.injEq]
  exact ⟨rfl,by show x.2+1+_=_;omega⟩
theorem zii (s:ByteArray) (i:Nat):rn s i=10 ↔ bt s i=10:=by
 have t:=zcj s i
 constructor
 ·intro h
  have hg:¬ (rn s i=65533∧wd s i=1):=by omega
  rcases t.width hg with h1 | h1 | h1 | h1
  ·rcases t.one h1.1 with h2 | h2 <;> (simp only [rn] at h;omega)
  all_goals (simp only [rn] at h;omega)
 ·intro h
  rcases Nat.lt_or_ge (wd s i) 2 with h1 | h1
  ·have:wd s i=1:=by have:=zbh s i;omega
   rcases t.one this with h2 | h2 <;> (simp only [rn];omega)
  ·have:=zdv s i h1;omega
theorem zd5 (s:ByteArray) (i:Nat) (h:i < s.size):s.data.toList.drop i=s.get! i::s.data.toList.drop (i+1):=by
 rw [← List.getElem_cons_drop (h:=by rw [Array.length_toList];exact h)]
 congr 1
 rw [zcy s i h]
 simp
theorem count_step (s:ByteArray) (i:Nat) (h:i < s.size) (hn:bt s i≠10):(s.data.toList.drop i).count 10=(s.data.toList.drop (i+1)).count 10:=by
 rw [zd5 s i h,List.count_cons_of_ne (fun e =>hn (by unfold bt;rw [e];rfl))]
theorem zg6 (s:ByteArray) (i:Nat):∀ k,(∀ j,i≤j→j < i+k→j < s.size∧bt s j≠10)→(s.data.toList.drop i).count 10=(s.data.toList.drop (i+k)).count 10
 | 0,_ =>rfl
 | k+1,h =>by
  rw [zg6 s i k (fun j h1 h2 =>h j h1 (by omega)),count_step s (i+k) (h _ (by omega) (by omega)).1 (h _ (by omega) (by omega)).2]
  rfl
theorem zfj (s:ByteArray):∀ f i,s.size≤i+f→(s.data.toList.drop i).count 10=((zaj s f i).map (fun i =>((rn s i:Nat):Int))).count 10
 | 0,i,h =>by
  rw [List.drop_eq_nil_of_le (by rw [Array.length_toList];show s.size≤i;omega)]
  rfl
 | f+1,i,h =>by
  by_cases hi:i < s.size
  ·have hp:=zbh s i
   have hr:=zbC s i hi
   rw [zas s f i hi,List.map_cons]
   by_cases ht:bt s i=10
   ·have h1:wd s i=1:=by
     rcases Nat.lt_or_ge (wd s i) 2 with h1 | h1
     ·omega
     ·have:=zdv s i h1;omega
    have e:s.get! i=10:=by rw [← UInt8.toNat_inj];exact ht
    rw [zd5 s i hi,e,(zii s i).2 ht,h1,List.count_cons_self,zfj s f (i+1) (by omega)]
    exact (List.count_cons_self ..).symm
   ·have hz:(10:Int)≠((rn s i:Nat):Int):=fun e =>ht ((zii s i).1 (by omega))
    rw [List.count_cons_of_ne (Ne.symm hz), ← zfj s f (i+wd s i) (by omega)]
    refine zg6 s i (wd s i) (fun j h1 h2 =>⟨by omega, ?_⟩)
    by_cases hj:j=i
    ·rw [hj];exact ht
    ·have:=zhf s i (j - i) (by omega) (by omega)
     rw [show i+(j - i)=j by omega] at this
     omega
  ·rw [zav s _ _ hi,List.drop_eq_nil_of_le (by rw [Array.length_toList];show s.size≤i;omega)]
   rfl
theorem zjP (s:ByteArray):Lib.countByte s.data.toList 10=(zaA s).count 10:=by
 have:=zfj s s.size 0 (by omega)
 rw [List.drop_zero] at this
 exact this
theorem zdt (t:ByteArray) (p:Nat) (h:p≤t.size):t.extract 0 p++t.extract p t.size=t:=by
 rw [ByteArray.extract_append_extract,Nat.zero_min,Nat.max_eq_right h,ByteArray.extract_zero_size]
theorem zc0 (t:ByteArray) (p:Nat) (h:p≤t.size) (hb:bdB t p=true):zaA t=zaA (t.extract 0 p)++zaA (t.extract p t.size):=by
 have hz:(t.extract 0 p).size=p:=by rw [ByteArray.size_extract];omega
 have:=zf4 (t.extract 0 p) (t.extract p t.size) (by rw [zdt t p h,hz];exact hb)
 rwa [zdt t p h] at this
theorem zjG (s:ByteArray) (b a:Nat) (h:a≤b):(s.extract 0 b).extract 0 a=s.extract 0 a:=by rw [ByteArray.extract_extract,Nat.zero_add,Nat.zero_add,Nat.min_eq_left h]
theorem ext_mid (s:ByteArray) (b a:Nat):(s.extract 0 b).extract a b=s.extract a b:=by rw [ByteArray.extract_extract,Nat.zero_add,Nat.zero_add,Nat.min_self]
theorem no_ten (t:ByteArray) (h:∀ j,j < t.size→bt t j≠10):(10:Int) ∉ zaA t:=by
 intro hm
 unfold zaA at hm
 obtain ⟨p,hp,e⟩:=List.mem_map.1 hm
 have h1:=(zb2 t t.size 0 p hp).2
 exact h p h1 ((zii t p).1 (by omega))
theorem zjD (t:ByteArray):(zbo t=0∧∀ j,j < t.size→bt t j≠10)∨(1≤zbo t∧zbo t≤t.size∧bt t (zbo t - 1)=10∧∀ j,zbo t≤j→j < t.size→bt t j≠10):=by
 have hget:∀ j,((t.data[j]!).toNat:Int)=(bt t j:Int):=fun j =>rfl
 unfold zbo
 rcases Lib.lastIndexByte_spec t 10 with ⟨h,h2⟩ | ⟨i,hi,h,h2,h3⟩
 ·rw [h];exact .inl ⟨rfl,fun j hj e =>h2 j hj (by rw [hget,e];rfl)⟩
 ·rw [h]
  rw [hget] at h2
  refine .inr ⟨by omega,by omega, ?_,fun j h4 hj e =>h3 j (by omega) hj (by rw [hget,e];rfl)⟩
  rw [show ((i:Int)+1).toNat - 1=i by omega]
  omega
theorem zhr:zaA ⟨#[10]⟩=[10]:=by decide
theorem lc_text (t:ByteArray):(1+Lib.countByte t.data.toList 10,1+(zaw (t.extract (zbo t) t.size)).length)=lcR (1,1) (zaA t):=by
 rw [zjP]
 rcases zjD t with ⟨h0,hn⟩ | ⟨h1,h2,h3,h4⟩
 ·have hno:=no_ten t hn
  rw [h0,ByteArray.extract_zero_size,zhD _ _ hno,List.count_eq_zero_of_not_mem hno,zdx]
 ·have hb:bdB t (zbo t)=true:=by
   have hb0:bdB t (zbo t - 1)=true:=zgp t _ (by omega)
   have hw:wd t (zbo t - 1)=1:=by
    rcases Nat.lt_or_ge (wd t (zbo t - 1)) 2 with q | q
    ·have:=zbh t (zbo t - 1);omega
    ·have:=zdv t _ q;omega
   have:=zfn t (zbo t - 1) hb0 (by omega)
   rwa [hw,show zbo t - 1+1=zbo t by omega] at this
  have hno:(10:Int) ∉ zaA (t.extract (zbo t) t.size):=no_ten _ (fun j hj =>by
   rw [ByteArray.size_extract] at hj
   unfold bt
   rw [zbN t (zbo t) j h2]
   exact h4 (zbo t+j) (by omega) (by omega))
  have e1:=zc0 t (zbo t) h2 hb
  -- the first part ends with the byte 10
  have hb0:bdB t (zbo t - 1)=true:=zgp t _ (by omega)
  have e2:zaA (t.extract 0 (zbo t))=zaA (t.extract 0 (zbo t - 1))++[10]:=by
   have hz:(t.extract 0 (zbo t)).size=zbo t:=by rw [ByteArray.size_extract];omega
   have hbt:bt (t.extract 0 (zbo t)) (zbo t - 1)=10:=by
    unfold bt
    rw [zbt t 0 (zbo t) (zbo t - 1) (by omega) h2,Nat.zero_add]
    exact h3
   have:=zc0 (t.extract 0 (zbo t)) (zbo t - 1) (by omega) (zgp _ _ (by rw [hbt];decide))
   rw [this,zjG t _ _ (by omega)]
   have e3:(t.extract 0 (zbo t)).extract (zbo t - 1) (t.extract 0 (zbo t)).size=⟨#[10]⟩:=by
    refine zev _ _ ?_ ?_
    ·rw [ByteArray.size_extract,hz];show _=1;omega
    ·intro j hj
     rw [ByteArray.size_extract,hz] at hj
     unfold bt
     rw [zbN _ _ _ (by omega)]
     obtain rfl:j=0:=by omega
     exact hbt
   rw [e3,zhr]
  rw [e1,List.count_append,List.count_eq_zero_of_not_mem hno,zhE,zhD _ _ hno,e2,zhE]
  generalize zaA (t.extract 0 (zbo t - 1))=A
  rw [zdx,Prod.mk.injEq]
  refine ⟨?_,rfl⟩
  show 1+_=(lcR (1,1) A).1+1
  rw [zkr,List.count_append]
  show 1+(_+1+0)=_
  omega
theorem whL_runes (s:ByteArray) (k:Nat):whL s k=lcR (1,1) (zaA (s.extract 0 (zcU s k))):=lc_text (zeX s k)
theorem lcR_on (s:ByteArray) (a b:Nat) (x:Nat × Nat) (hab:a≤b) (hb:b≤s.size) (ha:bdB (s.extract 0 b) a=true):lcR x (zaA (s.extract 0 b))=lcR (lcR x (zaA (s.extract 0 a))) (zaA (s.extract a b)):=by
 have hz:(s.extract 0 b).size=b:=by rw [ByteArray.size_extract];omega
 rw [zc0 (s.extract 0 b) a (by omega) ha,zhE,zjG s b a hab,hz,ext_mid s b a]
end Go.Proofs.YtmdgejgokoadlaaGreatDoor
