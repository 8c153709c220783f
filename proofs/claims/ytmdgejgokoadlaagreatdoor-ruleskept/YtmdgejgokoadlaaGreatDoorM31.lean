/- Texts of this claim, one behind the other. -/
import Derived.Test.YtmdgejgokoadlaaGreatDoorM10
import Derived.Test.YtmdgejgokoadlaaGreatDoorM7
import Derived.Test.YtmdgejgokoadlaaGreatDoorM23
import Derived.Test.YtmdgejgokoadlaaGreatDoorM28
import Derived.Test.YtmdgejgokoadlaaGreatDoorM15
import Derived.Test.YtmdgejgokoadlaaGreatDoorM30
import Derived.Test.YtmdgejgokoadlaaGreatDoorM17
import Derived.Lib.TrimUEq
import Derived.KernelRfl
import Derived.Lib.ItoaLen
/- A rune as it is written is one word: plain mathematics. -/
namespace Go.Proofs.YtmdgejgokoadlaaGreatDoor
open Go.RowKit Go.Shelf
set_option linter.unusedVariables false
def upD (d:Nat):UInt8:=if d < 10 then (48+d).toUInt8 else (55+d).toUInt8
theorem upD_of:∀ d,d < 16→Lib.toUpperA [zhR d]=[upD d]:=by decide +kernel
theorem hexI_upD:∀ d,d < 16→zbM (upD d).toNat=d:=by decide +kernel
theorem zhi:upD 0=48:=by decide
theorem upD_ne:∀ d,d < 16→d≠0→(upD d).toNat≠48:=by decide +kernel
theorem zhV (a b:List UInt8):Lib.toUpperA (a++b)=Lib.toUpperA a++Lib.toUpperA b:=by simp [Lib.toUpperA]
theorem zde {n:Nat} (h:n < 16):Lib.toUpperA (zfv n)=[upD n]:=by rw [zdo h,upD_of n h]
theorem zbr {n:Nat} (h:16≤n):Lib.toUpperA (zfv n)=Lib.toUpperA (zfv (n / 16))++[upD (n % 16)]:=by rw [zeP h,zhV,upD_of _ (Nat.mod_lt _ (by decide))]
theorem hex4 (n:Nat) (h:n < 65536):(⟨#[85,43]⟩:ByteArray)++⟨(Lib.repeatL [48] (4 - (upS n).size)).toArray⟩++upS n=⟨#[85,43,upD (n / 4096),upD (n / 256 % 16),upD (n / 16 % 16),upD (n % 16)]⟩:=by
 by_cases h1:n < 16
 ·have e:upS n=⟨#[upD n]⟩:=by unfold upS;rw [zde h1]
  rw [e,show n / 4096=0 by omega,show n / 256 % 16=0 by omega,show n / 16 % 16=0 by omega,show n % 16=n by omega,zhi]
  rfl
 by_cases h2:n < 256
 ·have e:upS n=⟨#[upD (n / 16),upD (n % 16)]⟩:=by unfold upS;rw [zbr (by omega),zde (by omega)];rfl
  rw [e,show n / 4096=0 by omega,show n / 256 % 16=0 by omega,show n / 16 % 16=n / 16 by omega,zhi]
  rfl
 by_cases h3:n < 4096
 ·have e:upS n=⟨#[upD (n / 256),upD (n / 16 % 16),upD (n % 16)]⟩:=by unfold upS;rw [zbr (by omega),zbr (by omega),zde (by omega),show n / 16 / 16=n / 256 by omega];rfl
  rw [e,show n / 4096=0 by omega,show n / 256 % 16=n / 256 by omega,zhi]
  rfl
 ·have e:upS n=⟨#[upD (n / 4096),upD (n / 256 % 16),upD (n / 16 % 16),upD (n % 16)]⟩:=by unfold upS;rw [zbr (by omega),zbr (by omega),zbr (by omega),zde (by omega),show n / 16 / 16 / 16=n / 4096 by omega,show n / 16 / 16=n / 256 by omega];rfl
  rw [e]
  rfl
theorem hex5 (n:Nat) (h0:65536≤n) (h:n < 1048576):(⟨#[85,43]⟩:ByteArray)++⟨(Lib.repeatL [48] (4 - (upS n).size)).toArray⟩++upS n=⟨#[85,43,upD (n / 65536),upD (n / 4096 % 16),upD (n / 256 % 16),upD (n / 16 % 16),upD (n % 16)]⟩:=by
 have e:upS n=⟨#[upD (n / 65536),upD (n / 4096 % 16),upD (n / 256 % 16),upD (n / 16 % 16),upD (n % 16)]⟩:=by
  unfold upS
  rw [zbr (by omega),zbr (by omega),zbr (by omega),zbr (by omega),zde (by omega),show n / 16 / 16 / 16 / 16=n / 65536 by omega,show n / 16 / 16 / 16=n / 4096 by omega,show n / 16 / 16=n / 256 by omega]
  rfl
 rw [e]
 rfl
theorem hex6 (n:Nat) (h0:1048576≤n) (h:n≤1114111):(⟨#[85,43]⟩:ByteArray)++⟨(Lib.repeatL [48] (4 - (upS n).size)).toArray⟩++upS n=⟨#[85,43,upD (n / 1048576),upD (n / 65536 % 16),upD (n / 4096 % 16),upD (n / 256 % 16),upD (n / 16 % 16),upD (n % 16)]⟩:=by
 have e:upS n=⟨#[upD (n / 1048576),upD (n / 65536 % 16),upD (n / 4096 % 16),upD (n / 256 % 16),upD (n / 16 % 16),upD (n % 16)]⟩:=by
  unfold upS
  rw [zbr (by omega),zbr (by omega),zbr (by omega),zbr (by omega),zbr (by omega),zde (by omega),show n / 16 / 16 / 16 / 16 / 16=n / 1048576 by omega,show n / 16 / 16 / 16 / 16=n / 65536 by omega,show n / 16 / 16 / 16=n / 4096 by omega,show n / 16 / 16=n / 256 by omega]
  rfl
 rw [e]
 rfl
theorem zaV {t:ByteArray} {v n d:Nat} (hn:n < t.size) (h6:n < 6∨bt t 2≠48) (hd:d < 16) (hb:bt t n=(upD d).toNat) (hv:v*16+d≤1114111):zaO t v n=zaO t (v*16+d) (n+1):=by
 have e:=hexI_upD d hd
 have hx:zbM (bt t n)=d:=by rw [hb];exact e
 have:=zcO (t:=t) (v:=v) (n:=n) ⟨hn,h6,by omega,by omega⟩
 rw [this,hx]
 rfl
theorem zhA {t:ByteArray} {n:Nat} (h1:bt t 1=43) (hs:6≤t.size) (hg:zaO t 0 2=(n,t.size)) (hw:zag (n:Int)≠0):zax t=(n,t.size,true):=by
 unfold zax
 rw [if_neg (by omega),hg,if_neg (fun q =>q.elim (fun q =>absurd q (by show ¬ t.size < 6;omega)) (fun q =>hw q))]
theorem numdV_4 (n:Nat) (h:n < 65536) (hw:zag (n:Int)≠0):zax ⟨#[85,43,upD (n / 4096),upD (n / 256 % 16),upD (n / 16 % 16),upD (n % 16)]⟩=(n,6,true):=by
 refine zhA (by rfl) (by show 6≤6;decide) ?_ hw
 rw [zaV (d:=n / 4096) (by show 2 < 6;decide) (.inl (by decide)) (by omega) rfl (by omega),zaV (d:=n / 256 % 16) (by show 3 < 6;decide) (.inl (by decide)) (by omega) rfl (by omega),zaV (d:=n / 16 % 16) (by show 4 < 6;decide) (.inl (by decide)) (by omega) rfl (by omega),zaV (d:=n % 16) (by show 5 < 6;decide) (.inl (by decide)) (by omega) rfl (by omega),zaH (by intro q;exact absurd q.1 (by show ¬ 6 < 6;decide))]
 rw [Prod.mk.injEq]
 exact ⟨by omega,rfl⟩
theorem numdV_5 (n:Nat) (h0:65536≤n) (h:n < 1048576) (hw:zag (n:Int)≠0):zax ⟨#[85,43,upD (n / 65536),upD (n / 4096 % 16),upD (n / 256 % 16),upD (n / 16 % 16),upD (n % 16)]⟩=(n,7,true):=by
 refine zhA (by rfl) (by show 6≤7;decide) ?_ hw
 have hz:bt ⟨#[85,43,upD (n / 65536),upD (n / 4096 % 16),upD (n / 256 % 16),upD (n / 16 % 16),upD (n % 16)]⟩ 2≠48:=upD_ne (n / 65536) (by omega) (by omega)
 rw [zaV (d:=n / 65536) (by show 2 < 7;decide) (.inl (by decide)) (by omega) rfl (by omega),zaV (d:=n / 4096 % 16) (by show 3 < 7;decide) (.inl (by decide)) (by omega) rfl (by omega),zaV (d:=n / 256 % 16) (by show 4 < 7;decide) (.inl (by decide)) (by omega) rfl (by omega),zaV (d:=n / 16 % 16) (by show 5 < 7;decide) (.inl (by decide)) (by omega) rfl (by omega),zaV (d:=n % 16) (by show 6 < 7;decide) (.inr hz) (by omega) rfl (by omega),zaH (by intro q;exact absurd q.1 (by show ¬ 7 < 7;decide))]
 rw [Prod.mk.injEq]
 exact ⟨by omega,rfl⟩
theorem numdV_6 (n:Nat) (h0:1048576≤n) (h:n≤1114111) (hw:zag (n:Int)≠0):zax ⟨#[85,43,upD (n / 1048576),upD (n / 65536 % 16),upD (n / 4096 % 16),upD (n / 256 % 16),upD (n / 16 % 16),upD (n % 16)]⟩=(n,8,true):=by
 refine zhA (by rfl) (by show 6≤8;decide) ?_ hw
 have hz:bt ⟨#[85,43,upD (n / 1048576),upD (n / 65536 % 16),upD (n / 4096 % 16),upD (n / 256 % 16),upD (n / 16 % 16),upD (n % 16)]⟩ 2≠48:=upD_ne (n / 1048576) (by omega) (by omega)
 rw [zaV (d:=n / 1048576) (by show 2 < 8;decide) (.inl (by decide)) (by omega) rfl (by omega),zaV (d:=n / 65536 % 16) (by show 3 < 8;decide) (.inl (by decide)) (by omega) rfl (by omega),zaV (d:=n / 4096 % 16) (by show 4 < 8;decide) (.inl (by decide)) (by omega) rfl (by omega),zaV (d:=n / 256 % 16) (by show 5 < 8;decide) (.inl (by decide)) (by omega) rfl (by omega),zaV (d:=n / 16 % 16) (by show 6 < 8;decide) (.inr hz) (by omega) rfl (by omega),zaV (d:=n % 16) (by show 7 < 8;decide) (.inr hz) (by omega) rfl (by omega),zaH (by intro q;exact absurd q.1 (by show ¬ 8 < 8;decide))]
 rw [Prod.mk.injEq]
 exact ⟨by omega,rfl⟩
structure zfo (s:ByteArray) (n:Nat):Prop where
 pos:0 < s.size
 small:s.size≤262144
 ok:(zan s).ok=true
 ws:(zan s).ws=[⟨⟨3,ByteArray.empty,n,0,s.size,true⟩,0,1,1,s.size⟩]
theorem zfJ (s:ByteArray):rst s 0=s:=ByteArray.extract_zero_size
theorem rst_end (s:ByteArray):rst s s.size=ByteArray.empty:=by
 have:(rst s s.size).size=0:=by rw [zah];omega
 exact za4 _ this
theorem gapV_none {t:ByteArray} (h:0 < t.size) (hb:zca (bt t 0)=false) (hr:bt t 0≠35):zd2 t=(0,true):=by
 unfold zd2
 obtain ⟨k,hk⟩:∃ k,t.size=k+1:=⟨t.size - 1,by omega⟩
 rw [hk]
 unfold zbk
 rw [if_pos (by omega),if_neg (by rw [hb];decide),if_neg hr]
theorem lcB_zero (t:ByteArray) (x:Nat × Nat):lcB t x 0=x:=by
 unfold lcB
 have:t.extract 0 0=ByteArray.empty:=za4 _ (by rw [ByteArray.size_extract];omega)
 rw [this]
 rfl
theorem zhT {s:ByteArray} {v:WV} (h:0 < s.size) (hb:zca (bt s 0)=false) (hr:bt s 0≠35) (hv:zac s=v) (hok:v.ok=true) (hn:v.n=s.size):(zan s).ok=true∧(zan s).ws=[⟨v,0,1,1,s.size⟩]:=by
 have hg:=gapV_none h hb hr
 obtain ⟨k,hk⟩:∃ k,s.size=k+1:=⟨s.size - 1,by omega⟩
 have e1:gB s 0=0:=by unfold gB;rw [zfJ,hg];rfl
 have e2:gLC s 0 (1,1)=(1,1):=by unfold gLC;rw [zfJ,hg,lcB_zero]
 have e3:zd2 (rst s s.size)=(0,true):=by rw [rst_end];rfl
 have e4:gB s s.size=s.size:=by unfold gB;rw [e3];rfl
 have hw:zan s=cutGo s s.size s.size (lcB s (1,1) s.size) [⟨v,0,1,1,s.size⟩]:=by
  unfold zan
  rw [cutGo.eq_2,if_neg (by rw [zfJ,hg];decide),e1,zfJ,if_neg (by omega),hv,if_neg (by rw [hok];decide),e2,hn,Nat.zero_add]
  rfl
 rw [hw]
 have hz:(rst s s.size).size=0:=by rw [zah];omega
 generalize lcB s (1,1) s.size=L
 have:cutGo s s.size s.size L [⟨v,0,1,1,s.size⟩]=⟨true,gB s s.size,gLC s s.size L,[⟨v,0,1,1,s.size⟩]⟩:=by
  have hf:∀ f,f=k+1→cutGo s f s.size L [⟨v,0,1,1,s.size⟩]=⟨true,gB s s.size,gLC s s.size L,[⟨v,0,1,1,s.size⟩]⟩:=fun f hf =>by
   subst hf
   rw [cutGo.eq_2,if_neg (by rw [e3];decide),if_pos (by rw [e4];exact hz)]
  exact hf _ hk
 rw [this]
 exact ⟨rfl,rfl⟩
theorem zdZ {s:ByteArray} {n:Nat} (h0:bt s 0=85) (hs:0 < s.size) (hb:s.size≤262144) (hv:zax s=(n,s.size,true)):zfo s n:=by
 have hw:zac s=⟨3,ByteArray.empty,n,0,s.size,true⟩:=by
  unfold zac
  rw [h0,if_neg (by decide),if_neg (by decide),if_pos rfl,hv]
  simp [za9]
 obtain ⟨a,b⟩:=zhT hs (by rw [h0];decide) (by rw [h0];decide) hw rfl rfl
 exact ⟨hs,hb,a,b⟩
def zlr (r:Int):ByteArray:=⟨#[39]⟩++Utf8.encode r++⟨#[39]⟩
theorem zkF {r:Int} (h:zag r≠0):1≤(Utf8.encode r).size∧(Utf8.encode r).size≤4:=by
 have:=(zfi h).2
 unfold zag at this h
 repeat' split at this
 all_goals first | (exfalso;omega) | omega | simp_all
theorem quoS_size {r:Int} (h:zag r≠0):(zlr r).size=(Utf8.encode r).size+2:=by
 unfold zlr
 rw [ByteArray.size_append,ByteArray.size_append]
 show 1+_+1=_
 omega
theorem one_quoted {r:Int} (h:zag r≠0) (h32:32≤r) (h39:r≠39) (h127:r≠127):zfo (zlr r) r.toNat:=by
 have hz:=quoS_size h
 have he:=zkF h
 obtain ⟨hd,hw⟩:=zfi h
 have ha:zlr r=⟨#[39]⟩++(Utf8.encode r++⟨#[39]⟩):=by unfold zlr;rw [ByteArray.append_assoc]
 have h0:bt (zlr r) 0=39:=by rw [ha,zfm _ _ 0 (by decide)];rfl
 have ht:tl1 (zlr r)=Utf8.encode r++⟨#[39]⟩:=by
  unfold tl1
  refine zev _ _ ?_ ?_
  ·rw [ByteArray.size_extract,hz,ByteArray.size_append]
   show min _ _ - 1=_+1
   omega
  ·intro j hj
   rw [ByteArray.size_extract] at hj
   unfold bt
   rw [zbN _ _ _ (by omega),ha]
   have:=zkS ⟨#[39]⟩ (Utf8.encode r++⟨#[39]⟩) j
   unfold bt at this
   exact this
 have hb:=(ze3 h).2.1
 have hg:¬ (rn (Utf8.encode r) 0=65533∧wd (Utf8.encode r) 0=1):=by simpa [zbe] using hb
 have hd0:Utf8.decode (Utf8.encode r++⟨#[39]⟩) 0=(r.toNat,(Utf8.encode r).size):=by rw [zci _ _ 0 (by omega) hg,hd]
 have hd1:Utf8.decode (Utf8.encode r++⟨#[39]⟩) (Utf8.encode r).size=(39,1):=by have:=zb7 (Utf8.encode r) ⟨#[39]⟩ 0;rw [Nat.add_zero] at this;rw [this];rfl
 have hsz:(Utf8.encode r++(⟨#[39]⟩:ByteArray)).size=(Utf8.encode r).size+1:=by rw [ByteArray.size_append];rfl
 have hq:zcV (zlr r)=(r.toNat,(zlr r).size,true):=by
  unfold zcV
  rw [ht]
  simp only [rn,wd,hd0,hd1]
  have hwb:zb1 (Utf8.encode r++⟨#[39]⟩)=true:=by
   unfold zb1 zbe
   simp only [rn,wd,hd0]
   rw [decide_eq_true (by omega),decide_eq_false (by simpa [rn,wd,hd] using hg)]
   rfl
  rw [if_neg (by omega),if_neg (by omega),if_neg (by rw [hwb];decide),if_neg (by omega),if_pos (by trivial),hz]
 have hv:zac (zlr r)=⟨3,ByteArray.empty,r.toNat,0,(zlr r).size,true⟩:=by
  unfold zac
  rw [h0,if_neg (by decide),if_neg (by decide),if_neg (by decide),if_pos rfl,hq]
 obtain ⟨a,b⟩:=zhT (by omega) (by rw [h0];decide) (by rw [h0];decide) hv rfl rfl
 exact ⟨by omega,by omega,a,b⟩
theorem one_text {r:Int} (h:zag r≠0):zfo (zct r).1 r.toNat∧(zct r).2=0:=by
 have hb:=zcf r h
 by_cases hq:33≤r∧r≤126∧r≠39
 ·have e:zct r=(zlr r,0):=by unfold zct zlr;rw [if_neg h,if_pos hq]
  rw [e]
  exact ⟨one_quoted h (by omega) hq.2.2 (by omega),rfl⟩
 ·obtain ⟨n,rfl⟩:∃ n:Nat,r=n:=⟨r.toNat,by omega⟩
  have e:zct (n:Int)=(⟨#[85,43]⟩++⟨(Lib.repeatL [48] (4 - (upS n).size)).toArray⟩++upS n,0):=by unfold zct;rw [if_neg h,if_neg hq,Int.toNat_natCast]
  rw [e,Int.toNat_natCast]
  refine ⟨?_,rfl⟩
  by_cases h4:n < 65536
  ·show zfo (⟨#[85,43]⟩++⟨(Lib.repeatL [48] (4 - (upS n).size)).toArray⟩++upS n) n
   rw [hex4 n h4]
   exact zdZ rfl (by show 0 < 6;decide) (by show 6≤262144;decide) (numdV_4 n h4 h)
  ·by_cases h5:n < 1048576
   ·show zfo (⟨#[85,43]⟩++⟨(Lib.repeatL [48] (4 - (upS n).size)).toArray⟩++upS n) n
    rw [hex5 n (by omega) h5]
    exact zdZ rfl (by show 0 < 7;decide) (by show 7≤262144;decide) (numdV_5 n (by omega) h5 h)
   ·show zfo (⟨#[85,43]⟩++⟨(Lib.repeatL [48] (4 - (upS n).size)).toArray⟩++upS n) n
    rw [hex6 n (by omega) (by omega)]
    exact zdZ rfl (by show 0 < 8;decide) (by show 8≤262144;decide) (numdV_6 n (by omega) (by omega) h)
theorem zfT {t:ByteArray} (h:zaP (bt t 0)=true):zac t=⟨1,t.extract 0 (zao t),0,0,zao t,za9 t (zao t)⟩:=by unfold zac;rw [if_pos h]
theorem sgn_kind (t:ByteArray):(zck t).1≠1:=by
 unfold zck
 repeat' split
 all_goals (show (_:Nat)≠1;decide)
theorem wordV_one {t:ByteArray} (h:(zac t).kind=1):zaP (bt t 0)=true:=by
 cases hs:zaP (bt t 0)
 ·exfalso
  unfold zac at h
  rw [hs,if_neg (by decide)] at h
  split at h
  ·cases h
  ·split at h
   ·cases h
   ·split at h
    ·cases h
    ·exact sgn_kind t h
 ·rfl
def sepB:List (ByteArray × UInt8)→ByteArray
 | [] =>ByteArray.empty
 | x::l =>x.1++((⟨#[x.2]⟩:ByteArray)++sepB l)
def okR (r:Int):Bool:=(zct r).2 == 0
def rtB (r:Int):ByteArray:=(zct r).1
def zdj (s:Int × Int):List ByteArray:=if s.2=s.1 then [rtB s.1] else [rtB s.1,⟨#[46,46]⟩,rtB s.2]
def zeg (s:Int × Int):Bool:=okR s.1 && okR s.2
def spansW (l:List (Int × Int)):List ByteArray:=⟨#[123]⟩::(l.flatMap zdj++[⟨#[125]⟩])
def scW (x:ByteArray × List (Int × Int)):List ByteArray:=⟨#[115,99,114,105,112,116]⟩::x.1::spansW x.2
def scK (x:ByteArray × List (Int × Int)):Bool:=zcx x.1 && x.2.all zeg
def liW (word:ByteArray) (l:List (Int × Int)):List ByteArray:=word::spansW l
def maW (x:Int × Int):List ByteArray := [⟨#[109,97,114,107]⟩,rtB x.1,zei x.2,⟨#[59]⟩]
def maK (x:Int × Int):Bool:=zjQ x.2 && okR x.1
def prW (x:Int × Int × Int):List ByteArray := [⟨#[112,97,105,114]⟩,rtB x.1,⟨#[61]⟩,rtB x.2.1,⟨#[43]⟩,rtB x.2.2,⟨#[59]⟩]
def prK (x:Int × Int × Int):Bool:=okR x.1 && (okR x.2.1 && okR x.2.2)
def mpW (word:ByteArray) (x:Int × ByteArray):List ByteArray:=word::rtB x.1::⟨#[61]⟩::((zaA x.2).map rtB++[⟨#[59]⟩])
def mpK (x:Int × ByteArray):Bool:=okTo x.2 && (okR x.1 && (zaA x.2).all okR)
def liL (word:ByteArray) (l:List (Int × Int)):List (List ByteArray):=if l.length=0 then [] else [liW word l]
def zkq (T:TV):List (List ByteArray) :=
 T.sc.map scW++(liL ⟨#[99,111,109,109,111,110]⟩ T.co++(T.ma.map maW++(T.pr.map prW++(T.fo.map (mpW ⟨#[102,111,108,100]⟩)++(T.lk.map (mpW ⟨#[108,111,111,107]⟩)++(liL ⟨#[100,114,111,112]⟩ T.dr++liL ⟨#[97,108,108,111,119]⟩ T.al))))))
def okT (T:TV):Bool:=T.sc.all scK && (T.co.all zeg && (T.ma.all maK && (T.pr.all prK && (T.fo.all mpK && (T.lk.all mpK && (T.dr.all zeg && T.al.all zeg))))))
theorem zis {r:Int}:okR r=true ↔ zag r≠0:=by
 constructor
 ·intro h e
  unfold okR zct at h
  rw [if_pos e] at h
  cases h
 ·intro h
  unfold okR
  rw [(one_text h).2]
  rfl
theorem zdP (s:ByteArray):∀ f i,Lib.validGoD f (s.data.toList.drop i)=true ↔ ∀ p ∈ zaj s f i,zbe s p=false
 | 0,i =>⟨fun _ p hp =>(by cases hp),fun _ =>rfl⟩
 | f+1,i =>by
  have hl:(s.data.toList.drop i).length=s.size - i:=by rw [List.length_drop,Array.length_toList];rfl
  unfold Lib.validGoD
  by_cases hi:i < s.size
  ·have hne:¬ s.data.toList.drop i=[]:=fun e =>by rw [e] at hl;have:([] : List UInt8).length=0:=rfl;omega
   rw [if_neg hne,zas s f i hi,Lib.decodeL_drop,List.drop_drop]
   by_cases hb:rn s i=65533∧wd s i=1
   ·rw [if_pos hb]
    exact ⟨fun h =>(by cases h),fun h =>by have:=h i (List.mem_cons_self ..);unfold zbe at this;rw [decide_eq_true hb] at this;cases this⟩
   ·rw [if_neg hb]
    have ih:=zdP s f (i+wd s i)
    refine ih.trans ⟨fun h p hp =>?_,fun h p hp =>h p (List.mem_cons_of_mem _ hp)⟩
    rcases List.mem_cons.1 hp with rfl | hp
    ·unfold zbe;exact decide_eq_false hb
    ·exact h p hp
  ·have hne:s.data.toList.drop i=[]:=List.length_eq_zero_iff.1 (by omega)
   rw [if_pos hne,zav s _ i hi]
   exact ⟨fun _ p hp =>(by cases hp),fun _ =>rfl⟩
theorem zkg {s:ByteArray}:okTo s=true ↔ s.size≠0∧∀ p ∈ zaw s,zbe s p=false:=by
 unfold okTo
 rw [Bool.and_eq_true,decide_eq_true_iff]
 have h:=zdP s s.size 0
 have e:Lib.validD s.data.toList=Lib.validGoD s.size (s.data.toList.drop 0):=rfl
 rw [e]
 exact ⟨fun q =>⟨q.1,h.1 q.2⟩,fun q =>⟨q.1,h.2 q.2⟩⟩
theorem okTo_back {s:ByteArray} (h:okTo s=true):runesBytes (zaA s)=s:=zjR s (zkg.1 h).2
theorem zir {T:TV} (h:okT T=true):T.sc.all scK=true∧T.co.all zeg=true∧T.ma.all maK=true∧T.pr.all prK=true∧T.fo.all mpK=true∧T.lk.all mpK=true∧T.dr.all zeg=true∧T.al.all zeg=true:=by
 unfold okT at h
 simpa only [Bool.and_eq_true] using h
def lineP:List ByteArray→List (ByteArray × UInt8)
 | [] => []
 | [w] => [(w,10)]
 | w::u::ws =>(w,32)::lineP (u::ws)
theorem ziB:∀ (ws:List ByteArray),(lineP ws).map Prod.fst=ws
 | [] =>rfl
 | [w] =>rfl
 | w::u::ws =>by show w::(lineP (u::ws)).map Prod.fst=_;rw [ziB (u::ws)]
def zhk (T:TV):ByteArray:=sepB ((zkq T).flatMap lineP)
theorem zkB:∀ (ls:List (List ByteArray)),(ls.flatMap lineP).map Prod.fst=ls.flatten
 | [] =>rfl
 | l::ls =>by rw [List.flatMap_cons,List.map_append,ziB,zkB ls,List.flatten_cons]
theorem wd_rune {t:ByteArray} (ho:(zac t).ok=true) (hk:(zac t).kind=3):zag ((zac t).R:Int)≠0:=by
 unfold zac at ho hk ⊢
 split at hk
 ·cases hk
 ·rename_i hs
  rw [if_neg hs] at ho ⊢
  split at hk
  ·cases hk
  ·rename_i hd
   rw [if_neg hd] at ho ⊢
   split at hk
   ·rename_i hu
    rw [if_pos hu] at ho ⊢
    have ho2:(zax t).2.2=true:=((Bool.and_eq_true _ _).mp ho).1
    show zag (((zax t).1:Nat):Int)≠0
    unfold zax at ho2 ⊢
    split at ho2
    ·cases ho2
    ·rename_i h1
     rw [if_neg h1]
     split at ho2
     ·cases ho2
     ·rename_i h6
      rw [if_neg h6]
      exact fun e =>h6 (.inr e)
   ·rename_i hu
    rw [if_neg hu] at ho ⊢
    split at hk
    ·rename_i hq
     rw [if_pos hq] at ho ⊢
     have ho2:(zcV t).2.2=true:=ho
     show zag (((zcV t).1:Nat):Int)≠0
     unfold zcV at ho2 ⊢
     repeat' split at ho2
     all_goals first | (cases ho2;done) | skip
     rename_i h1 h2 h3 h4 h5
     rw [if_neg h1,if_neg h2,if_neg h3,if_neg h4,if_pos h5]
     exact zjk _ _
    ·exfalso
     have:(zck t).1=3:=hk
     unfold zck at this
     repeat' split at this
     all_goals cases this
theorem wd_num {t:ByteArray} (h0:0 < t.size) (hk:(zac t).kind=2):(zac t).N≤65535:=by
 unfold zac at hk ⊢
 split at hk
 ·cases hk
 ·rename_i hs
  rw [if_neg hs]
  split at hk
  ·rename_i hd
   rw [if_pos hd]
   have:=zdC.1 hd
   exact (zeK t t.size (bt t 0 - 48) 1 (by omega) (by omega)).2.2 (by omega)
  ·rename_i hd
   rw [if_neg hd]
   split at hk
   ·cases hk
   ·rename_i hu
    rw [if_neg hu]
    split at hk
    ·cases hk
    ·rename_i hq
     rw [if_neg hq]
     show 0≤65535
     omega
theorem wd_name {t:ByteArray} (h0:0 < t.size) (ho:(zac t).ok=true) (hk:(zac t).kind=1):zcx (zac t).S=true:=by
 have hs:=wordV_one hk
 have hv:=zfT hs
 have hle:=zb0 t h0
 have hn:=hle.2 ho
 rw [hv] at hn hle
 have hn':1≤zao t:=hn
 have hle':zao t≤t.size:=hle.1
 have hsz:(t.extract 0 (zao t)).size=zao t:=by rw [ByteArray.size_extract];omega
 have hbt:∀ i,i < zao t→bt (t.extract 0 (zao t)) i=bt t i:=fun i hi =>by unfold bt;rw [zbt _ _ _ _ (by omega) hle',Nat.zero_add]
 have hl:=zkX (u:=t.extract 0 (zao t)) h0 ho (by rw [hv,hsz];exact Nat.le_refl _) (fun i hi =>by rw [hv] at hi;exact hbt i hi) (fun _ =>.inl (by rw [hv,hsz]))
 have hs2:zaP (bt (t.extract 0 (zao t)) 0)=true:=by rw [hbt 0 hn'];exact hs
 rw [zfT hs2,hv] at hl
 have e:zao (t.extract 0 (zao t))=zao t:=(WV.mk.inj hl).2.2.2.2.1
 rw [hv]
 show zcx (t.extract 0 (zao t))=true
 unfold zcx
 rw [decide_eq_true_iff,e,hsz]
 exact ⟨hn',rfl⟩
structure zi3 (x:W8):Prop where
 r:x.k=3→okR x.r=true
 s:x.k=1→zcx x.S=true
 n:x.k=2→zjQ x.n=true
theorem ws_good {s:ByteArray} (hok:(zan s).ok=true):∀ x ∈ zcI s,zi3 x:=by
 intro x hx
 cases hp:posV s with
 | none =>rw [zkV hp] at hok;cases hok
 | some ps =>
  have hw:=(words_pos hp).2
  unfold zcI at hx
  rw [hw,List.map_map] at hx
  obtain ⟨q,hq,rfl⟩:=List.mem_map.1 hx
  have hm:=zkM s _ 0 ps (Nat.zero_le _) hp q hq
  have h0:0 < (rst s q).size:=by rw [zah];omega
  generalize hv:rst s q=t at *
  have e:(w8 ∘ mkW s) q=⟨((zac t).kind:Nat),(zac t).S,((zac t).R:Nat),((zac t).N:Nat),(q:Nat),((zdI s q).1:Nat),((zdI s q).2:Nat),((q+(zac t).n:Nat):Int)⟩:=by
   show w8 (mkW s q)=_
   unfold w8 mkW
   rw [hv]
  rw [e]
  refine ⟨fun h =>?_,fun h =>?_,fun h =>?_⟩
  ·exact zis.2 (wd_rune hm.2 (by have:(((zac t).kind:Nat):Int)=3:=h;omega))
  ·exact wd_name h0 hm.2 (by have:(((zac t).kind:Nat):Int)=1:=h;omega)
  ·have:=wd_num h0 (by have:(((zac t).kind:Nat):Int)=2:=h;omega)
   show zjQ (((zac t).N:Nat):Int)=true
   unfold zjQ
   rw [decide_eq_true (by omega),decide_eq_true (by omega)]
   rfl
def wsz:List ByteArray→Nat
 | [] =>0
 | w::l =>w.size+1+wsz l
theorem zbB:∀ (a b:List ByteArray),wsz (a++b)=wsz a+wsz b
 | [],b =>by show wsz b=0+wsz b;omega
 | w::a,b =>by show w.size+1+wsz (a++b)=w.size+1+wsz a+wsz b;rw [zbB a b];omega
theorem zh6:∀ (l:List (ByteArray × UInt8)),(sepB l).size=wsz (l.map Prod.fst)
 | [] =>rfl
 | x::l =>by
  show (x.1++((⟨#[x.2]⟩:ByteArray)++sepB l)).size=x.1.size+1+wsz (l.map Prod.fst)
  rw [ByteArray.size_append,ByteArray.size_append,zh6 l]
  show x.1.size+(1+_)=_
  omega
theorem zhW (T:TV):(zhk T).size=wsz (zkq T).flatten:=by unfold zhk;rw [zh6,zkB]
theorem zcz (r:Int):(rtB r).size≤14:=by
 unfold rtB zct
 split
 ·show 0≤14;omega
 ·rename_i hw
  have hb:=zcf r hw
  split
  ·have:=zkF hw
   show (⟨#[39]⟩++Utf8.encode r++⟨#[39]⟩:ByteArray).size≤14
   rw [ByteArray.size_append,ByteArray.size_append]
   show 1+_+1≤14
   omega
  ·have h1:=zhh r.toNat (by omega)
   have h2:=zhy (4 - (upS r.toNat).size) (by omega)
   show (⟨#[85,43]⟩++⟨(Lib.repeatL [48] (4 - (upS r.toNat).size)).toArray⟩++upS r.toNat:ByteArray).size≤14
   rw [ByteArray.size_append,ByteArray.size_append,h2]
   show 2+_+_≤14
   omega
theorem itoaB_cls {n:Int} (h:zjQ n=true):(zei n).size≤21:=by
 unfold zjQ at h
 rw [Bool.and_eq_true] at h
 have h0:=of_decide_eq_true h.1
 have h1:=of_decide_eq_true h.2
 exact Lib.itoa_length_le n (by omega) (by omega)
theorem zfu {s:ByteArray} (h:zcx s=true):s.size≤32:=by
 have h1:=of_decide_eq_true h
 have:=zdm s
 omega
theorem zaW {ws:List W8} {k:Nat} {bad:Option Rf} {eb el ec kind:Int} (h:(zaa ws k bad eb el ec kind).bad=none):bad=none∧∃ x,ws[k]?=some x∧x.k=kind∧zaa ws k bad eb el ec kind=⟨x,k+1,none⟩:=by
 cases hs:zaJ ws k bad kind with
 | false =>
  unfold zaa at h
  rw [hs] at h
  cases hw:ws[k]? <;> (rw [hw] at h;cases h)
 | true =>
  obtain ⟨x,hx,_,hb⟩:=zbl hs
  subst hb
  refine ⟨rfl,x,hx, ?_, ?_⟩
  ·unfold zaJ at hs;rw [hx] at hs;simpa using hs
  ·unfold zaa;rw [hs,hx]
theorem span_inv {ws:List W8} {k:Nat} {bad:Option Rf} {eb el ec:Int} (hg:∀ x ∈ ws,zi3 x) (h:(zbs ws k bad eb el ec).bad=none) :
  bad=none∧zeg ((zbs ws k bad eb el ec).lo,(zbs ws k bad eb el ec).hi)=true∧wsz (zdj ((zbs ws k bad eb el ec).lo,(zbs ws k bad eb el ec).hi))+15*k≤15*(zbs ws k bad eb el ec).k:=by
 unfold zbs at h ⊢
 dsimp only at h ⊢
 by_cases hs:zaJ ws (zaa ws k bad eb el ec 3).k (zaa ws k bad eb el ec 3).bad 9=true
 ·rw [if_pos hs] at h ⊢
  dsimp only at h ⊢
  obtain ⟨h1,z,hz,zk,ez⟩:=zaW h
  obtain ⟨h2,y,hy,yk,ey⟩:=zaW h1
  obtain ⟨h3,x,hx,xk,ex⟩:=zaW h2
  rw [ez,ey,ex]
  dsimp only
  rw [ey] at hz
  rw [ex] at hz
  dsimp only at hz
  have g1:=(hg x (List.mem_of_getElem? hx)).r xk
  have g2:=(hg z (List.mem_of_getElem? hz)).r zk
  refine ⟨h3,by unfold zeg;rw [g1,g2];rfl, ?_⟩
  have s1:=zcz x.r
  have s2:=zcz z.r
  unfold zdj
  split
  ·show (rtB x.r).size+1+0+_≤_
   omega
  ·show (rtB x.r).size+1+(2+1+((rtB z.r).size+1+0))+_≤_
   omega
 ·rw [if_neg hs] at h ⊢
  dsimp only at h ⊢
  obtain ⟨h3,x,hx,xk,ex⟩:=zaW h
  rw [ex]
  dsimp only
  have g1:=(hg x (List.mem_of_getElem? hx)).r xk
  refine ⟨h3,by unfold zeg;rw [g1];rfl, ?_⟩
  have s1:=zcz x.r
  unfold zdj
  rw [if_pos rfl]
  show (rtB x.r).size+1+0+_≤_
  omega
theorem zfZ {ws:List W8} {eb el ec:Int} (hg:∀ x ∈ ws,zi3 x):∀ (f k:Nat) (bad:Option Rf),(zaT ws eb el ec f k bad).bad=none→bad=none∧(zaT ws eb el ec f k bad).ss.all zeg=true∧wsz ((zaT ws eb el ec f k bad).ss.flatMap zdj)+15*k≤15*(zaT ws eb el ec f k bad).k
 | 0,k,bad,h =>⟨h,rfl,by show 0+_≤_;exact Nat.le_of_eq (Nat.zero_add _)⟩
 | f+1,k,bad,h =>by
  unfold zaT at h ⊢
  by_cases hs:zaJ ws k bad 3=true
  ·rw [if_pos hs] at h ⊢
   dsimp only at h ⊢
   obtain ⟨h1,h2,h3⟩:=zfZ hg f _ _ h
   obtain ⟨h4,h5,h6⟩:=span_inv hg h1
   refine ⟨h4,by rw [List.all_cons,h5,h2];rfl, ?_⟩
   rw [List.flatMap_cons,zbB]
   omega
  ·rw [if_neg hs] at h ⊢
   exact ⟨h,rfl,by show 0+_≤_;exact Nat.le_of_eq (Nat.zero_add _)⟩
theorem zd8 {ws:List W8} {k:Nat} {bad:Option Rf} {eb el ec:Int} (hg:∀ x ∈ ws,zi3 x) (h:(zaf ws k bad eb el ec).bad=none) :
  bad=none∧(zaf ws k bad eb el ec).ss.all zeg=true∧wsz ((zaf ws k bad eb el ec).ss.flatMap zdj)+15*k+30≤15*(zaf ws k bad eb el ec).k:=by
 unfold zaf at h ⊢
 dsimp only at h ⊢
 obtain ⟨h1,z,hz,zk,ez⟩:=zaW h
 obtain ⟨h2,h3,h4⟩:=zfZ hg _ _ _ h1
 obtain ⟨h5,x,hx,xk,ex⟩:=zaW h2
 refine ⟨h5,h3, ?_⟩
 rw [ez]
 dsimp only
 have:(zaa ws k bad eb el ec 4).k=k+1:=by rw [ex]
 omega
theorem ziA {ws:List W8} {eb el ec:Int} (hg:∀ x ∈ ws,zi3 x):∀ (f k:Nat) (bad:Option Rf),(zcP ws eb el ec f k bad).bad=none→bad=none∧(zcP ws eb el ec f k bad).l.all okR=true∧(zcP ws eb el ec f k bad).l.length+k=(zcP ws eb el ec f k bad).k
 | 0,k,bad,h =>⟨h,rfl,by show 0+k=k;omega⟩
 | f+1,k,bad,h =>by
  unfold zcP at h ⊢
  by_cases hs:zaJ ws k bad 3=true
  ·rw [if_pos hs] at h ⊢
   dsimp only at h ⊢
   obtain ⟨h1,h2,h3⟩:=ziA hg f _ _ h
   obtain ⟨h4,x,hx,xk,ex⟩:=zaW h1
   have g1:=(hg x (List.mem_of_getElem? hx)).r xk
   have e1:(zaa ws k bad eb el ec 3).k=k+1:=by rw [ex]
   have e2:(zaa ws k bad eb el ec 3).x=x:=by rw [ex]
   refine ⟨h4,by rw [List.all_cons,e2,g1,h2];rfl, ?_⟩
   rw [List.length_cons]
   omega
  ·rw [if_neg hs] at h ⊢
   exact ⟨h,rfl,by show 0+k=k;omega⟩
theorem zkn {ws:List W8} {k:Nat} {bad:Option Rf} {eb el ec:Int} (hg:∀ x ∈ ws,zi3 x) (h:(zcc ws k bad eb el ec).bad=none) :
  bad=none∧okR (zcc ws k bad eb el ec).fr=true∧(zcc ws k bad eb el ec).tw.all okR=true∧(zcc ws k bad eb el ec).tw≠[]∧(zcc ws k bad eb el ec).tw.length+3+k=(zcc ws k bad eb el ec).k:=by
 unfold zcc at h ⊢
 dsimp only at h ⊢
 obtain ⟨h1,z,hz,zk,ez⟩:=zaW h
 obtain ⟨h2,h3,h4⟩:=ziA hg _ _ _ h1
 obtain ⟨h5,y,hy,yk,ey⟩:=zaW h2
 obtain ⟨h6,u,hu,uk,eu⟩:=zaW h5
 obtain ⟨h7,x,hx,xk,ex⟩:=zaW h6
 have e1:(zaa ws k bad eb el ec 3).k=k+1:=by rw [ex]
 have e2:(zaa ws k bad eb el ec 3).x=x:=by rw [ex]
 have e3:(zaa ws (zaa ws k bad eb el ec 3).k (zaa ws k bad eb el ec 3).bad eb el ec 7).k=k+1+1:=by rw [eu,e1]
 generalize zaa ws (zaa ws k bad eb el ec 3).k (zaa ws k bad eb el ec 3).bad eb el ec 7=B at *
 have e4:(zaa ws B.k B.bad eb el ec 3).k=B.k+1:=by rw [ey]
 have e5:(zaa ws B.k B.bad eb el ec 3).x=y:=by rw [ey]
 have g1:=(hg x (List.mem_of_getElem? hx)).r xk
 have g2:=(hg y (List.mem_of_getElem? hy)).r yk
 refine ⟨h7,by rw [e2];exact g1,by rw [List.all_cons,e5,g2,h3];rfl,List.cons_ne_nil _ _, ?_⟩
 rw [List.length_cons,ez]
 dsimp only
 omega
theorem zkm {a:Int} {l:List Int} (ha:okR a=true) (hl:l.all okR=true) (hn:l≠[]):mpK (a,runesBytes l)=true∧∀ w,wsz (mpW w (a,runesBytes l))≤w.size+20+15*l.length:=by
 have hw:∀ z ∈ l,zag z≠0:=fun z hz =>zis.1 (List.all_eq_true.1 hl z hz)
 obtain ⟨h1,h2⟩:=zgJ l hw
 have h3:okTo (runesBytes l)=true:=zkg.2 ⟨fun e =>hn (by
  rw [← h1]
  have:runesBytes l=ByteArray.empty:=za4 _ e
  rw [this]
  rfl),h2⟩
 refine ⟨by unfold mpK;rw [h3,ha,h1,hl];rfl,fun w =>?_⟩
 unfold mpW
 rw [h1]
 have hr:=zcz a
 have key:∀ l:List Int,wsz (l.map rtB)≤15*l.length:=fun l =>by
  induction l with
  | nil =>exact Nat.le_refl _
  | cons r l ih =>have:=zcz r;show (rtB r).size+1+wsz (l.map rtB)≤15*(l.length+1);omega
 show w.size+1+((rtB a).size+1+(1+1+wsz (l.map rtB++[⟨#[59]⟩])))≤_
 rw [zbB]
 have:=key l
 show w.size+1+((rtB a).size+1+(1+1+(wsz (l.map rtB)+(1+1+0))))≤_
 omega
def c0T (T:TV):Nat:=wsz (T.sc.flatMap scW)+wsz (T.co.flatMap zdj)+wsz (T.ma.flatMap maW)+wsz (T.pr.flatMap prW)+wsz (T.fo.flatMap (mpW ⟨#[102,111,108,100]⟩))+wsz (T.lk.flatMap (mpW ⟨#[108,111,111,107]⟩))+wsz (T.dr.flatMap zdj)+wsz (T.al.flatMap zdj)
theorem zjA (w:ByteArray) (l:List (Int × Int)):wsz (liL w l).flatten≤wsz (l.flatMap zdj)+w.size+5:=by
 unfold liL
 split
 ·show 0≤_;omega
 ·show wsz ([liW w l].flatten)≤_
  rw [List.flatten_cons,List.flatten_nil,List.append_nil]
  show w.size+1+(1+1+wsz (l.flatMap zdj++[⟨#[125]⟩]))≤_
  rw [zbB]
  show w.size+1+(1+1+(wsz (l.flatMap zdj)+(1+1+0)))≤_
  omega
theorem text_c0 (T:TV):(zhk T).size≤c0T T+33:=by
 rw [zhW]
 unfold zkq c0T
 simp only [List.flatten_append, ← List.flatMap_def,zbB]
 have h1:=zjA ⟨#[99,111,109,109,111,110]⟩ T.co
 have h2:=zjA ⟨#[100,114,111,112]⟩ T.dr
 have h3:=zjA ⟨#[97,108,108,111,119]⟩ T.al
 have e1:(⟨#[99,111,109,109,111,110]⟩:ByteArray).size=6:=rfl
 have e2:(⟨#[100,114,111,112]⟩:ByteArray).size=4:=rfl
 have e3:(⟨#[97,108,108,111,119]⟩:ByteArray).size=5:=rfl
 omega
theorem zft {T:TV} (h1:T.sc.all scK=true) (h2:T.co.all zeg=true) (h3:T.ma.all maK=true) (h4:T.pr.all prK=true) (h5:T.fo.all mpK=true) (h6:T.lk.all mpK=true) (h7:T.dr.all zeg=true) (h8:T.al.all zeg=true):okT T=true:=by
 unfold okT
 rw [h1,h2,h3,h4,h5,h6,h7,h8]
 rfl
theorem rule_inv {ws:List W8} {eb el ec:Int} {k:Nat} {x:W8} {T:TV} (hg:∀ x ∈ ws,zi3 x) (hk:okT T=true) (hc:c0T T≤15*k) (h:(zau ws eb el ec k x T).bad=none):okT (zau ws eb el ec k x T).T=true∧c0T (zau ws eb el ec k x T).T≤15*(zau ws eb el ec k x T).k:=by
 obtain ⟨o1,o2,o3,o4,o5,o6,o7,o8⟩:=zir hk
 unfold c0T at hc
 have h8:=zeF x.S
 unfold zau at h ⊢
 generalize zaB x.S=n at *
 rcases (by omega:n=0∨n=1∨n=2∨n=3∨n=4∨n=5∨n=6∨n=7∨n=8) with rfl | rfl | rfl | rfl | rfl | rfl | rfl | rfl | rfl
 ·cases h
 ·simp only [zbi] at h ⊢
  unfold zaU at h ⊢
  dsimp only at h ⊢
  obtain ⟨h1,h2,h3⟩:=zd8 hg h
  obtain ⟨h4,y,hy,yk,ey⟩:=zaW h1
  have e1:(zaa ws (k+1) none eb el ec 1).k=k+2:=by rw [ey]
  have e2:(zaa ws (k+1) none eb el ec 1).x=y:=by rw [ey]
  have g1:=(hg y (List.mem_of_getElem? hy)).s yk
  have g2:=zfu g1
  generalize zaf ws (zaa ws (k+1) none eb el ec 1).k (zaa ws (k+1) none eb el ec 1).bad eb el ec=V at *
  rw [e2]
  refine ⟨zft (by rw [List.all_append,o1];show (true && ((zcx y.S && V.ss.all zeg) && true))=true;rw [g1,h2];rfl) o2 o3 o4 o5 o6 o7 o8, ?_⟩
  unfold c0T
  dsimp only
  rw [List.flatMap_append,zbB]
  have:wsz ([(y.S,V.ss)].flatMap scW)≤44+wsz (V.ss.flatMap zdj):=by
   rw [List.flatMap_cons,List.flatMap_nil,List.append_nil]
   show 6+1+(y.S.size+1+(1+1+wsz (V.ss.flatMap zdj++[⟨#[125]⟩])))≤_
   rw [zbB]
   show 6+1+(y.S.size+1+(1+1+(wsz (V.ss.flatMap zdj)+(1+1+0))))≤_
   omega
  omega
 ·simp only [zbi] at h ⊢
  obtain ⟨h1,h2,h3⟩:=zd8 hg h
  generalize zaf ws (k+1) none eb el ec=V at *
  refine ⟨zft o1 (by rw [List.all_append,o2,h2];rfl) o3 o4 o5 o6 o7 o8, ?_⟩
  unfold c0T
  dsimp only
  rw [List.flatMap_append,zbB]
  omega
 ·simp only [zbi] at h ⊢
  unfold zcn at h ⊢
  dsimp only at h ⊢
  obtain ⟨h1,z,hz,zk,ez⟩:=zaW h
  obtain ⟨h2,u,hu,uk,eu⟩:=zaW h1
  obtain ⟨h4,y,hy,yk,ey⟩:=zaW h2
  have e1:(zaa ws (k+1) none eb el ec 3).k=k+2:=by rw [ey]
  have e2:(zaa ws (k+1) none eb el ec 3).x=y:=by rw [ey]
  generalize zaa ws (k+1) none eb el ec 3=A at *
  have e3:(zaa ws A.k A.bad eb el ec 2).k=A.k+1:=by rw [eu]
  have e4:(zaa ws A.k A.bad eb el ec 2).x=u:=by rw [eu]
  generalize zaa ws A.k A.bad eb el ec 2=B at *
  have e5:(zaa ws B.k B.bad eb el ec 6).k=B.k+1:=by rw [ez]
  generalize zaa ws B.k B.bad eb el ec 6=C at *
  have g1:=(hg y (List.mem_of_getElem? hy)).r yk
  have g2:=(hg u (List.mem_of_getElem? hu)).n uk
  have g3:=itoaB_cls g2
  have g4:=zcz y.r
  rw [e2,e4]
  refine ⟨zft o1 o2 (by rw [List.all_append,o3];show (true && ((zjQ u.n && okR y.r) && true))=true;rw [g1,g2];rfl) o4 o5 o6 o7 o8, ?_⟩
  unfold c0T
  dsimp only
  rw [List.flatMap_append,zbB]
  have:wsz ([(y.r,u.n)].flatMap maW)≤44:=by
   show 4+1+((rtB y.r).size+1+((zei u.n).size+1+(1+1+0)))≤_
   omega
  omega
 ·simp only [zbi] at h ⊢
  unfold zb5 at h ⊢
  dsimp only at h ⊢
  obtain ⟨h1,z,hz,zk,ez⟩:=zaW h
  obtain ⟨h2,u,hu,uk,eu⟩:=zaW h1
  obtain ⟨h3,v,hv,vk,ev⟩:=zaW h2
  obtain ⟨h5,p,hp,pk,ep⟩:=zaW h3
  obtain ⟨h6,q,hq,qk,eq⟩:=zaW h5
  obtain ⟨h4,y,hy,yk,ey⟩:=zaW h6
  have e1:(zaa ws (k+1) none eb el ec 3).k=k+2:=by rw [ey]
  have e2:(zaa ws (k+1) none eb el ec 3).x=y:=by rw [ey]
  generalize zaa ws (k+1) none eb el ec 3=A at *
  have e3:(zaa ws A.k A.bad eb el ec 7).k=A.k+1:=by rw [eq]
  generalize zaa ws A.k A.bad eb el ec 7=B at *
  have e5:(zaa ws B.k B.bad eb el ec 3).k=B.k+1:=by rw [ep]
  have e6:(zaa ws B.k B.bad eb el ec 3).x=p:=by rw [ep]
  generalize zaa ws B.k B.bad eb el ec 3=C at *
  have e7:(zaa ws C.k C.bad eb el ec 8).k=C.k+1:=by rw [ev]
  generalize zaa ws C.k C.bad eb el ec 8=D at *
  have e8:(zaa ws D.k D.bad eb el ec 3).k=D.k+1:=by rw [eu]
  have e9:(zaa ws D.k D.bad eb el ec 3).x=u:=by rw [eu]
  generalize zaa ws D.k D.bad eb el ec 3=E at *
  have e10:(zaa ws E.k E.bad eb el ec 6).k=E.k+1:=by rw [ez]
  generalize zaa ws E.k E.bad eb el ec 6=F at *
  have g1:=(hg y (List.mem_of_getElem? hy)).r yk
  have g2:=(hg p (List.mem_of_getElem? hp)).r pk
  have g3:=(hg u (List.mem_of_getElem? hu)).r uk
  have g4:=zcz y.r
  have g5:=zcz p.r
  have g6:=zcz u.r
  rw [e2,e6,e9]
  refine ⟨zft o1 o2 o3 (by rw [List.all_append,o4];show (true && ((okR y.r && (okR p.r && okR u.r)) && true))=true;rw [g1,g2,g3];rfl) o5 o6 o7 o8, ?_⟩
  unfold c0T
  dsimp only
  rw [List.flatMap_append,zbB]
  have:wsz ([(y.r,p.r,u.r)].flatMap prW)≤90:=by
   show 4+1+((rtB y.r).size+1+(1+1+((rtB p.r).size+1+(1+1+((rtB u.r).size+1+(1+1+0))))))≤_
   omega
  omega
 ·simp only [zbi] at h ⊢
  obtain ⟨h1,h2,h3,h4,h5⟩:=zkn hg h
  generalize zcc ws (k+1) none eb el ec=V at *
  obtain ⟨m1,m2⟩:=zkm h2 h3 h4
  have m3:=m2 ⟨#[102,111,108,100]⟩
  have e1:(⟨#[102,111,108,100]⟩:ByteArray).size=4:=rfl
  refine ⟨zft o1 o2 o3 o4 (by rw [List.all_append,o5];show (true && (mpK (V.fr,runesBytes V.tw) && true))=true;rw [m1];rfl) o6 o7 o8, ?_⟩
  unfold c0T
  dsimp only
  rw [List.flatMap_append,zbB,List.flatMap_cons,List.flatMap_nil,List.append_nil]
  omega
 ·simp only [zbi] at h ⊢
  obtain ⟨h1,h2,h3,h4,h5⟩:=zkn hg h
  generalize zcc ws (k+1) none eb el ec=V at *
  obtain ⟨m1,m2⟩:=zkm h2 h3 h4
  have m3:=m2 ⟨#[108,111,111,107]⟩
  have e1:(⟨#[108,111,111,107]⟩:ByteArray).size=4:=rfl
  refine ⟨zft o1 o2 o3 o4 o5 (by rw [List.all_append,o6];show (true && (mpK (V.fr,runesBytes V.tw) && true))=true;rw [m1];rfl) o7 o8, ?_⟩
  unfold c0T
  dsimp only
  rw [List.flatMap_append,zbB,List.flatMap_cons,List.flatMap_nil,List.append_nil]
  omega
 ·simp only [zbi] at h ⊢
  obtain ⟨h1,h2,h3⟩:=zd8 hg h
  generalize zaf ws (k+1) none eb el ec=V at *
  refine ⟨zft o1 o2 o3 o4 o5 o6 (by rw [List.all_append,o7,h2];rfl) o8, ?_⟩
  unfold c0T
  dsimp only
  rw [List.flatMap_append,zbB]
  omega
 ·simp only [zbi] at h ⊢
  obtain ⟨h1,h2,h3⟩:=zd8 hg h
  generalize zaf ws (k+1) none eb el ec=V at *
  refine ⟨zft o1 o2 o3 o4 o5 o6 o7 (by rw [List.all_append,o8,h2];rfl), ?_⟩
  unfold c0T
  dsimp only
  rw [List.flatMap_append,zbB]
  omega
theorem zdW (ws:List W8) (eb el ec:Int) (r:Rf):∀ f k T,(za1 ws eb el ec f k (some r) T).bad=some r
 | 0,k,T =>rfl
 | f+1,k,T =>by unfold za1;rfl
theorem zjC {T:TV} {a b:Nat} (h:T.Le a) (hab:a≤b):T.Le b:=by
 obtain ⟨a1,a2,a3,a4,a5,a6,a7,a8,b1,b2,b3,b4,b5,b6,b7,b8⟩:=h
 exact ⟨by omega,by omega,by omega,by omega,by omega,by omega,by omega,by omega,by omega,by omega,by omega,by omega,by omega,by omega,by omega,by omega⟩
theorem zf8 {ws:List W8} {eb el ec:Int} (hg:∀ x ∈ ws,zi3 x):∀ (f k:Nat) (bad:Option Rf) (T:TV),okT T=true→c0T T≤15*k→k≤ws.length→T.Le k→(za1 ws eb el ec f k bad T).bad=none→okT (za1 ws eb el ec f k bad T).T=true∧c0T (za1 ws eb el ec f k bad T).T≤15*ws.length∧(za1 ws eb el ec f k bad T).T.Le ws.length
 | 0,k,bad,T,h1,h2,h3,h4,h =>⟨h1,by show c0T T≤_;omega,zjC h4 h3⟩
 | f+1,k,bad,T,h1,h2,h3,h4,h =>by
  cases bad with
  | some r =>rw [zdW] at h;cases h
  | none =>
   cases hx:ws[k]? with
   | none =>
    unfold za1
    rw [hx]
    exact ⟨h1,by show c0T T≤_;omega,zjC h4 h3⟩
   | some x =>
    have e:za1 ws eb el ec (f+1) k none T=za1 ws eb el ec f (zau ws eb el ec k x T).k (zau ws eb el ec k x T).bad (zau ws eb el ec k x T).T:=by
     conv =>lhs;unfold za1
     rw [hx]
    rw [e] at h ⊢
    by_cases hr:zaB x.S=0
    ·have er:zau ws eb el ec k x T=⟨k,some (zeA ws k eb el ec),T⟩:=by unfold zau;rw [hr];rfl
     rw [er] at h
     rw [zdW] at h
     cases h
    ·have hl:=zea ws eb el ec k x hx T h4 hr
     cases hb:(zau ws eb el ec k x T).bad with
     | some r =>rw [hb,zdW] at h;cases h
     | none =>
      obtain ⟨q1,q2⟩:=rule_inv hg h1 h2 hb
      rw [hb] at h
      exact zf8 hg f _ _ _ q1 q2 hl.2.1 hl.2.2 h
theorem parse_good {s:ByteArray} (hs:s.size≤262144) {k:Nat} {T:TV} (h:zaD s=⟨k,none,T⟩):okT T=true∧(zhk T).size≤15*(zcI s).length+33∧T.Le (zcI s).length:=by
 have hok:(zan s).ok=true:=by
  cases hw:(zan s).ok with
  | true =>rfl
  | false =>unfold zaD at h;rw [hw,if_neg (by decide)] at h;cases h
 have hp:zbP s=⟨k,none,T⟩:=by unfold zaD at h;rw [if_pos hok] at h;exact h
 unfold zbP zfr at hp
 have:=zf8 (ws_good hok) (eb:=(s.size:Nat)) (el:=zcl s) (ec:=zcm s) ((zcI s).length+1) 0 none TV0 (by rfl) (by show 0≤_;omega) (Nat.zero_le _) zi1 (by rw [hp])
 rw [hp] at this
 have h2:=text_c0 T
 exact ⟨this.1,by have:=this.2.1;dsimp only at this;omega,this.2.2⟩
end Go.Proofs.YtmdgejgokoadlaaGreatDoor
