/- Texts of this claim, one behind the other. -/
import Derived.Test.YtmdgejgokoadlaaGreatDoorM31
import Derived.Test.YtmdgejgokoadlaaGreatDoorM30
import Derived.Test.YtmdgejgokoadlaaGreatDoorM25
import Derived.Test.YtmdgejgokoadlaaGreatDoorM28
import Derived.Test.YtmdgejgokoadlaaGreatDoorM23
import Derived.Test.YtmdgejgokoadlaaGreatDoorM2
import Derived.Test.YtmdgejgokoadlaaGreatDoorM15
/- The runes of a text, as the reference reads them: plain mathematics. -/
namespace Go.Proofs.YtmdgejgokoadlaaGreatDoor
open Go.RowKit Go.Shelf
open Go.Lib (decode_at)
set_option linter.unusedVariables false
theorem dec0 (N b0 b1 b2 b3:Nat) (h:(128≤b0∧b0 < 192)∨(248≤b0∧b0 < 256)):Lib.decodeN N b0 b1 b2 b3=(65533,1):=by
 unfold Lib.decodeN
 repeat' split
 all_goals first | rfl | (exfalso;omega)
theorem dec1 (N b0 b1 b2 b3:Nat) (h0:192≤b0) (h1:b0 < 224) (hb:b1 < 256):Lib.decodeN N b0 b1 b2 b3=if (1 < N∧128≤b1∧b1 < 192)∧128≤(b0 - 192)*64+(b1 - 128) then ((b0 - 192)*64+(b1 - 128),2) else (65533,1):=by
 have e1:b0 % 32=b0 - 192:=by omega
 unfold Lib.decodeN
 rw [if_neg (by omega),e1]
 by_cases hc:1 < N∧128≤b1∧b1 < 192
 ·have e2:b1 % 64=b1 - 128:=by omega
  rw [if_pos (by omega),e2]
  by_cases hv:128≤(b0 - 192)*64+(b1 - 128)
  ·rw [if_pos hv,if_pos ⟨hc,hv⟩]
  ·rw [if_neg hv,if_neg (fun q =>hv q.2)]
 ·rw [if_neg (by omega),if_neg (by omega),if_neg (by omega),if_neg (fun q =>hc q.1)]
theorem dec2 (N b0 b1 b2 b3:Nat) (h0:224≤b0) (h1:b0 < 240) (hb:b1 < 256) (hb2:b2 < 256):Lib.decodeN N b0 b1 b2 b3=if ((1 < N∧128≤b1∧b1 < 192)∧(2 < N∧128≤b2∧b2 < 192))∧2048≤((b0 - 224)*64+(b1 - 128))*64+(b2 - 128)∧(((b0 - 224)*64+(b1 - 128))*64+(b2 - 128) < 55296∨57343 < ((b0 - 224)*64+(b1 - 128))*64+(b2 - 128)) then (((b0 - 224)*64+(b1 - 128))*64+(b2 - 128),3) else (65533,1):=by
 have e1:b0 % 16=b0 - 224:=by omega
 unfold Lib.decodeN
 rw [if_neg (by omega),if_neg (by omega),e1]
 by_cases hc:(1 < N∧128≤b1∧b1 < 192)∧(2 < N∧128≤b2∧b2 < 192)
 ·have e2:b1 % 64=b1 - 128:=by omega
  have e3:b2 % 64=b2 - 128:=by omega
  have e4:(b0 - 224)*4096+(b1 - 128)*64+(b2 - 128)=((b0 - 224)*64+(b1 - 128))*64+(b2 - 128):=by omega
  rw [if_pos (by omega),e2,e3,e4]
  generalize hv:((b0 - 224)*64+(b1 - 128))*64+(b2 - 128)=v
  have hv2:v < 65536:=by omega
  by_cases q:2048≤v∧(v < 55296∨57343 < v)
  ·rw [if_pos (by omega),if_pos ⟨hc,q⟩]
  ·rw [if_neg (by omega),if_neg (fun z =>q z.2)]
 ·rw [if_neg (by omega),if_neg (by omega),if_neg (fun q =>hc q.1)]
theorem dec3 (N b0 b1 b2 b3:Nat) (h0:240≤b0) (h1:b0 < 248) (hb:b1 < 256) (hb2:b2 < 256) (hb3:b3 < 256):Lib.decodeN N b0 b1 b2 b3=if ((1 < N∧128≤b1∧b1 < 192)∧(2 < N∧128≤b2∧b2 < 192)∧(3 < N∧128≤b3∧b3 < 192))∧65536≤(((b0 - 240)*64+(b1 - 128))*64+(b2 - 128))*64+(b3 - 128)∧(((b0 - 240)*64+(b1 - 128))*64+(b2 - 128))*64+(b3 - 128)≤1114111 then ((((b0 - 240)*64+(b1 - 128))*64+(b2 - 128))*64+(b3 - 128),4) else (65533,1):=by
 have e1:b0 % 8=b0 - 240:=by omega
 unfold Lib.decodeN
 rw [if_neg (by omega),if_neg (by omega),if_neg (by omega),e1]
 by_cases hc:(1 < N∧128≤b1∧b1 < 192)∧(2 < N∧128≤b2∧b2 < 192)∧(3 < N∧128≤b3∧b3 < 192)
 ·have e2:b1 % 64=b1 - 128:=by omega
  have e3:b2 % 64=b2 - 128:=by omega
  have e5:b3 % 64=b3 - 128:=by omega
  have e4:(b0 - 240)*262144+(b1 - 128)*4096+(b2 - 128)*64+(b3 - 128)=(((b0 - 240)*64+(b1 - 128))*64+(b2 - 128))*64+(b3 - 128):=by omega
  rw [if_pos (by omega),e2,e3,e5,e4]
  generalize hv:(((b0 - 240)*64+(b1 - 128))*64+(b2 - 128))*64+(b3 - 128)=v
  by_cases q:65536≤v∧v≤1114111
  ·rw [if_pos (by omega),if_pos ⟨hc,q⟩]
  ·rw [if_neg (by omega),if_neg (fun z =>q z.2)]
 ·rw [if_neg (by omega),if_neg (fun q =>hc q.1)]
def zcK (s:ByteArray) (i base:Nat):Nat→Nat
 | 0 =>bt s i - base
 | k+1 =>zcK s i base k*64+(bt s (i+(k+1)) - 128)
def zfk (s:ByteArray) (j:Nat):Prop:=j < s.size∧128≤bt s j∧bt s j < 192
theorem zhg (s:ByteArray) (i base:Nat) (h:bt s i - base < 32):∀ k,(∀ q,1≤q→q≤k→zfk s (i+q))→zcK s i base k < 32*64 ^ k
 | 0,_ =>by rw [Nat.pow_zero,Nat.mul_one];exact h
 | k+1,hc =>by
  have ih:=zhg s i base h k (fun q h1 h2 =>hc q h1 (by omega))
  have hb:=hc (k+1) (by omega) (by omega)
  unfold zfk at hb
  have e:zcK s i base (k+1)=zcK s i base k*64+(bt s (i+(k+1)) - 128):=rfl
  rw [e,Nat.pow_succ]
  generalize 64 ^ k=P at *
  omega
def cls (n:Nat):Nat × Nat × Nat:=match n with
 | 1 =>(192,224,128)
 | 2 =>(224,240,2048)
 | _ =>(240,248,65536)
def zdw (v:Nat):Bool:=decide (v≤1114111∧(v < 55296∨57343 < v))
theorem zjF {P C:Prop} [Decidable P] {a b:Nat × Nat} (h:P ↔ C):(C→(if P then a else b)=a)∧(¬ C→(if P then a else b)=b):=⟨fun q =>if_pos (h.2 q),fun q =>if_neg (fun z =>q (h.1 z))⟩
theorem dec_cls (s:ByteArray) (i n:Nat) (hn:n=1∨n=2∨n=3) (h0:(cls n).1≤bt s i) (h1:bt s i < (cls n).2.1) :
  ((∀ q,1≤q→q≤n→zfk s (i+q))∧(cls n).2.2≤zcK s i (cls n).1 n∧zdw (zcK s i (cls n).1 n)=true→Utf8.decode s i=(zcK s i (cls n).1 n,n+1))∧(¬ ((∀ q,1≤q→q≤n→zfk s (i+q))∧(cls n).2.2≤zcK s i (cls n).1 n∧zdw (zcK s i (cls n).1 n)=true)→Utf8.decode s i=(65533,1)):=by
 rw [decode_at]
 have hb:=fun j =>zaX s j
 have ed:Lib.decodeN (s.size - i) (s.get! i).toNat (s.get! (i+1)).toNat (s.get! (i+2)).toNat (s.get! (i+3)).toNat=Lib.decodeN (s.size - i) (bt s i) (bt s (i+1)) (bt s (i+2)) (bt s (i+3)):=rfl
 rw [ed]
 have q1:=hb (i+1)
 have q2:=hb (i+2)
 have q3:=hb (i+3)
 rcases hn with rfl | rfl | rfl
 ·have e:zcK s i (cls 1).1 1=(bt s i - 192)*64+(bt s (i+1) - 128):=rfl
  rw [dec1 _ _ _ _ _ h0 h1 q1,e]
  generalize bt s i=b0 at *
  have hc:(∀ q,1≤q→q≤1→zfk s (i+q)) ↔ (1 < s.size - i∧128≤bt s (i+1)∧bt s (i+1) < 192):=by
   constructor
   ·intro h;have:=h 1 (by omega) (by omega);unfold zfk at this;omega
   ·intro h q a b;obtain rfl:q=1:=by omega
    unfold zfk;omega
  generalize bt s (i+1)=b1 at *
  have hv:(b0 - 192)*64+(b1 - 128) < 55296∨¬ (1 < s.size - i∧128≤b1∧b1 < 192):=by
   have h1':b0 < 224:=h1
   omega
  generalize (b0 - 192)*64+(b1 - 128)=v at *
  refine zjF ?_
  rw [hc]
  unfold zdw
  rw [decide_eq_true_iff]
  show _∧128≤v ↔ _∧128≤v∧_
  constructor
  ·rintro ⟨a,b⟩;exact ⟨a,b,by rcases hv with q | q;omega;exact absurd a q⟩
  ·rintro ⟨a,b,_⟩;exact ⟨a,b⟩
 ·have e:zcK s i (cls 2).1 2=((bt s i - 224)*64+(bt s (i+1) - 128))*64+(bt s (i+2) - 128):=rfl
  rw [dec2 _ _ _ _ _ h0 h1 q1 q2,e]
  generalize bt s i=b0 at *
  have hc:(∀ q,1≤q→q≤2→zfk s (i+q)) ↔ ((1 < s.size - i∧128≤bt s (i+1)∧bt s (i+1) < 192)∧(2 < s.size - i∧128≤bt s (i+2)∧bt s (i+2) < 192)):=by
   constructor
   ·intro h;have a:=h 1 (by omega) (by omega);have b:=h 2 (by omega) (by omega);unfold zfk at a b;omega
   ·intro h q a b
    rcases (by omega:q=1∨q=2) with rfl | rfl <;> (unfold zfk;omega)
  generalize bt s (i+1)=b1 at *
  generalize bt s (i+2)=b2 at *
  have hv:((b0 - 224)*64+(b1 - 128))*64+(b2 - 128)≤65535∨¬ ((1 < s.size - i∧128≤b1∧b1 < 192)∧(2 < s.size - i∧128≤b2∧b2 < 192)):=by
   have h1':b0 < 240:=h1
   omega
  generalize ((b0 - 224)*64+(b1 - 128))*64+(b2 - 128)=v at *
  refine zjF ?_
  rw [hc]
  unfold zdw
  rw [decide_eq_true_iff]
  show _∧2048≤v∧_ ↔ _∧2048≤v∧_
  constructor
  ·rintro ⟨a,b,c⟩;exact ⟨a,b,by rcases hv with q | q;exact ⟨by omega,c⟩;exact absurd a q⟩
  ·rintro ⟨a,b,c⟩;exact ⟨a,b,c.2⟩
 ·have e:zcK s i (cls 3).1 3=(((bt s i - 240)*64+(bt s (i+1) - 128))*64+(bt s (i+2) - 128))*64+(bt s (i+3) - 128):=rfl
  rw [dec3 _ _ _ _ _ h0 h1 q1 q2 q3,e]
  generalize bt s i=b0 at *
  have hc:(∀ q,1≤q→q≤3→zfk s (i+q)) ↔ ((1 < s.size - i∧128≤bt s (i+1)∧bt s (i+1) < 192)∧(2 < s.size - i∧128≤bt s (i+2)∧bt s (i+2) < 192)∧(3 < s.size - i∧128≤bt s (i+3)∧bt s (i+3) < 192)):=by
   constructor
   ·intro h;have a:=h 1 (by omega) (by omega);have b:=h 2 (by omega) (by omega);have c:=h 3 (by omega) (by omega);unfold zfk at a b c;omega
   ·intro h q a b
    rcases (by omega:q=1∨q=2∨q=3) with rfl | rfl | rfl <;> (unfold zfk;omega)
  generalize bt s (i+1)=b1 at *
  generalize bt s (i+2)=b2 at *
  generalize bt s (i+3)=b3 at *
  generalize (((b0 - 240)*64+(b1 - 128))*64+(b2 - 128))*64+(b3 - 128)=v at *
  refine zjF ?_
  rw [hc]
  unfold zdw
  rw [decide_eq_true_iff]
  show _∧65536≤v∧_ ↔ _∧65536≤v∧_
  constructor
  ·rintro ⟨a,b,c⟩;exact ⟨a,b,by omega⟩
  ·rintro ⟨a,b,c⟩;exact ⟨a,b,by omega⟩
theorem dec_asc (s:ByteArray) (i:Nat) (h:bt s i < 128):rn s i=bt s i∧wd s i=1∧zbe s i=false:=by
 have e:Utf8.decode s i=(bt s i,1):=by
  rw [decode_at]
  show Lib.decodeN _ (bt s i) _ _ _=_
  unfold Lib.decodeN
  rw [if_pos h]
 refine ⟨by unfold rn;rw [e],by unfold wd;rw [e], ?_⟩
 unfold zbe rn wd
 rw [e]
 exact decide_eq_false (by dsimp only;omega)
theorem zkL (s:ByteArray) (i:Nat) (h:(128≤bt s i∧bt s i < 192)∨248≤bt s i):zbe s i=true:=by
 have hb:=zaX s i
 have e:Utf8.decode s i=(65533,1):=by
  rw [decode_at]
  exact dec0 _ _ _ _ _ (by show (128≤bt s i∧bt s i < 192)∨(248≤bt s i∧bt s i < 256);omega)
 unfold zbe rn wd
 rw [e]
 rfl
theorem zjN (s:ByteArray) (i n:Nat) (hn:n=1∨n=2∨n=3) (h0:(cls n).1≤bt s i) (h1:bt s i < (cls n).2.1) (hc:∀ q,1≤q→q≤n→zfk s (i+q)) (hl:(cls n).2.2≤zcK s i (cls n).1 n) (hs:zdw (zcK s i (cls n).1 n)=true):rn s i=zcK s i (cls n).1 n∧wd s i=n+1∧zbe s i=false:=by
 have e:=(dec_cls s i n hn h0 h1).1 ⟨hc,hl,hs⟩
 refine ⟨by unfold rn;rw [e],by unfold wd;rw [e], ?_⟩
 unfold zbe rn wd
 rw [e]
 exact decide_eq_false (by dsimp only;omega)
theorem zcT (s:ByteArray) (i n:Nat) (hn:n=1∨n=2∨n=3) (h0:(cls n).1≤bt s i) (h1:bt s i < (cls n).2.1) (hc:¬ ((∀ q,1≤q→q≤n→zfk s (i+q))∧(cls n).2.2≤zcK s i (cls n).1 n∧zdw (zcK s i (cls n).1 n)=true)):zbe s i=true:=by
 have e:=(dec_cls s i n hn h0 h1).2 hc
 unfold zbe rn wd
 rw [e]
 rfl
def okU (s:ByteArray):Bool:=Lib.validD s.data.toList
theorem okU_iff {s:ByteArray}:okU s=true ↔ ∀ p ∈ zaw s,zbe s p=false:=zdP s s.size 0
structure RuQ (s:ByteArray) (i f:Nat) (zs:List Int):Prop where
 le:i≤s.size
 fu:s.size≤i+f
 rs:zaA s=zs++(zaj s f i).map (fun p =>((rn s p:Nat):Int))
 ok:okU s=true ↔ ∀ p ∈ zaj s f i,zbe s p=false
 ln:zs.length≤i
theorem RuQ.start (s:ByteArray):RuQ s 0 s.size []:=⟨Nat.zero_le _,by omega,rfl,okU_iff,Nat.le_refl _⟩
theorem RuQ.next {s:ByteArray} {i f:Nat} {zs:List Int} (h:RuQ s i f zs) (hi:i < s.size) (hb:zbe s i=false):∃ f',RuQ s (i+wd s i) f' (zs++[((rn s i:Nat):Int)]):=by
 have hfu:=h.fu
 obtain ⟨g,rfl⟩:∃ g,f=g+1:=⟨f - 1,by omega⟩
 have hr:=h.rs
 have ho:=h.ok
 rw [zas s g i hi] at hr ho
 have hw:=zbh s i
 have hl:=h.ln
 refine ⟨g,zbC s i hi,by omega, ?_, ?_,by rw [List.length_append,List.length_singleton];omega⟩
 ·rw [hr,List.map_cons,List.append_assoc];rfl
 ·refine ho.trans ⟨fun q p hp =>q p (List.mem_cons_of_mem _ hp),fun q p hp =>?_⟩
  rcases List.mem_cons.1 hp with rfl | hp
  ·exact hb
  ·exact q p hp
theorem RuQ.bad {s:ByteArray} {i f:Nat} {zs:List Int} (h:RuQ s i f zs) (hi:i < s.size) (hb:zbe s i=true):okU s=false:=by
 have hfu:=h.fu
 obtain ⟨g,rfl⟩:∃ g,f=g+1:=⟨f - 1,by omega⟩
 have ho:=h.ok
 rw [zas s g i hi] at ho
 cases hk:okU s with
 | false =>rfl
 | true =>
  have:=ho.1 hk i (List.mem_cons_self ..)
  rw [hb] at this
  cases this
theorem RuQ.fin {s:ByteArray} {i f:Nat} {zs:List Int} (h:RuQ s i f zs) (hi:¬ i < s.size):okU s=true∧zaA s=zs:=by
 have hr:=h.rs
 have ho:=h.ok
 rw [zav s f i hi] at hr ho
 exact ⟨ho.2 (fun p hp =>by cases hp),by rw [hr];simp⟩
end Go.Proofs.YtmdgejgokoadlaaGreatDoor
namespace Go.Proofs.YtmdgejgokoadlaaGreatDoor
open Go.RowKit Go.Shelf
set_option linter.unusedVariables false
theorem badOf_none {t:ByteArray}:zbv t=none ↔ ∀ p ∈ zaw t,zbe t p=false:=by
 unfold zbv
 rw [List.find?_eq_none]
 constructor
 ·intro h p hp
  have:=h p hp
  simpa using this
 ·intro h p hp
  rw [h p hp]
  decide
theorem okU_badOf {t:ByteArray}:okU t=true ↔ zbv t=none:=okU_iff.trans badOf_none.symm
theorem app_ok {v u:ByteArray} (hv:zbv v=none) (hu:zbv u=none):zbv (v++u)=none:=by
 have h:=badOf_none.1 hv
 have hj:=zcu v u h
 rw [zfN] at hj
 rw [zfD v u hj h,hu]
 rfl
theorem zgZ {s:ByteArray} {a b c:Nat} (h1:a≤b) (h2:b≤c) (h3:c≤s.size) (hv:zbv (s.extract a b)=none) (hu:zbv (s.extract b c)=none):zbv (s.extract a c)=none:=by
 have e:s.extract a b++s.extract b c=s.extract a c:=by
  rw [ByteArray.extract_append_extract]
  rw [Nat.min_eq_left h1,Nat.max_eq_right h2]
 rw [← e]
 exact app_ok hv hu
theorem zkT {t:ByteArray} (h:∀ j,j < t.size→bt t j < 128):zbv t=none :=
 badOf_none.2 (fun p hp =>(dec_asc t p (h p (zb2 t _ 0 p hp).2)).2.2)
theorem bt_ext (s:ByteArray) (a c j:Nat) (h:a+j < c) (hc:c≤s.size):bt (s.extract a c) j=bt s (a+j):=by
 unfold bt
 rw [zbt s a c j h hc]
theorem ext2 (t:ByteArray) (n q:Nat) (h:n+q≤t.size):(t.extract n t.size).extract 0 q=t.extract n (n+q):=by
 rw [ByteArray.extract_extract,Nat.add_zero,Nat.min_eq_left h]
theorem zez {s:ByteArray} {a c:Nat} (hc:c≤s.size) (h:∀ j,a≤j→j < c→bt s j < 128):zbv (s.extract a c)=none :=
 zkT (fun j hj =>by
  rw [ByteArray.size_extract] at hj
  rw [bt_ext s a c j (by omega) hc]
  exact h _ (by omega) (by omega))
theorem rune_ok {s:ByteArray} {i:Nat} (hi:i < s.size) (hg:zbe s i=false):zbv (s.extract i (i+wd s i))=none:=by
 rw [← enc_dec s i hi hg]
 obtain ⟨h1,h2,_⟩:=ze3 (zjk s i)
 refine badOf_none.2 (fun p hp =>?_)
 rw [h1] at hp
 rw [List.mem_singleton.1 hp]
 exact h2
theorem gap_ok (t:ByteArray):∀ f n,n≤t.size→t.size≤n+f→(zbk t f n).2=true→n≤(zbk t f n).1∧(zbk t f n).1≤t.size∧zbv (t.extract n (zbk t f n).1)=none
 | 0,n,h1,h2,ho =>by
  show n≤t.size∧t.size≤t.size∧zbv (t.extract n t.size)=none
  exact ⟨h1,Nat.le_refl _,zkT (fun j hj =>by rw [ByteArray.size_extract] at hj;omega)⟩
 | f+1,n,h1,h2,ho =>by
  unfold zbk at ho ⊢
  by_cases hn:n < t.size
  ·rw [if_pos hn] at ho ⊢
   by_cases hb:zca (bt t n)=true
   ·rw [if_pos hb] at ho ⊢
    have g:=gap_ok t f (n+1) (by omega) (by omega) ho
    generalize (zbk t f (n+1)).1=z at *
    refine ⟨by omega,g.2.1,zgZ (b:=n+1) (by omega) g.1 g.2.1 (zez (by omega) (fun j j1 j2 =>?_)) g.2.2⟩
    obtain rfl:j=n:=by omega
    unfold zca at hb
    have:=of_decide_eq_true hb
    omega
   ·rw [if_neg hb] at ho ⊢
    by_cases hr:bt t n=35
    ·rw [if_pos hr] at ho ⊢
     by_cases hv:(zeh (t.extract n t.size)).2=true
     ·rw [if_pos hv] at ho ⊢
      have hl:=zer (t.extract n t.size)
      have hz:(t.extract n t.size).size=t.size - n:=by rw [ByteArray.size_extract];omega
      rcases ze8 (t.extract n t.size) with ⟨hb0,e⟩ | ⟨x,_,e⟩
      ·have hp:=zj8 (t.extract n t.size) (by omega) (by rw [bt_ext t n t.size 0 (by omega) (Nat.le_refl _)];show bt t n≠10;omega) hv
       have e1:(zeh (t.extract n t.size)).1=zd0 (t.extract n t.size):=by rw [e]
       rw [e1] at ho hp ⊢
       have e2:=ext2 t n (zd0 (t.extract n t.size)) (by omega)
       rw [e2] at hb0
       clear e e1 e2 hv
       generalize zd0 (t.extract n t.size)=q at *
       have g:=gap_ok t f (n+q) (by omega) (by omega) ho
       generalize (zbk t f (n+q)).1=z at *
       exact ⟨by omega,g.2.1,zgZ (b:=n+q) (by omega) g.1 g.2.1 hb0 g.2.2⟩
      ·rw [e] at hv
       cases hv
     ·rw [if_neg hv] at ho
      cases ho
    ·rw [if_neg hr]
     exact ⟨Nat.le_refl _,h1,zkT (fun j hj =>by rw [ByteArray.size_extract] at hj;dsimp only at hj;omega)⟩
  ·rw [if_neg hn]
   exact ⟨h1,Nat.le_refl _,zkT (fun j hj =>by rw [ByteArray.size_extract] at hj;dsimp only at hj;omega)⟩
theorem zki (t:ByteArray):∀ f v n j,n≤j→j < (numF t f v n).2→zcr (bt t j)=true
 | 0,v,n,j,h1,h2 =>by exact absurd (show j < n from h2) (by omega)
 | f+1,v,n,j,h1,h2 =>by
  unfold numF at h2
  split at h2
  ·rename_i h
   by_cases hj:j=n
   ·rw [hj];exact h.2.1
   ·exact zki t f _ (n+1) j (by omega) h2
  ·exact absurd (show j < n from h2) (by omega)
theorem zit (t:ByteArray):∀ f v n j,n≤j→j < (numdF t f v n).2→0≤zbM (bt t j)
 | 0,v,n,j,h1,h2 =>by exact absurd (show j < n from h2) (by omega)
 | f+1,v,n,j,h1,h2 =>by
  unfold numdF at h2
  split at h2
  ·rename_i h
   by_cases hj:j=n
   ·rw [hj];exact h.2.2.1
   ·exact zit t f _ (n+1) j (by omega) h2
  ·exact absurd (show j < n from h2) (by omega)
theorem hexI_lt {c:Nat} (h:0≤zbM c):c < 128:=by
 unfold zbM at h
 repeat' split at h
 all_goals omega
theorem quo_ok (t:ByteArray) (h:0 < t.size) (hq:bt t 0=39) (ho:(zcV t).2.2=true) (hn:(zcV t).2.1≤t.size):zbv (t.extract 0 (zcV t).2.1)=none:=by
 unfold zcV at ho hn ⊢
 repeat' split at ho
 all_goals first | (cases ho;done) | skip
 rename_i h1 h2 h3 h4 h5
 rw [if_neg h1,if_neg h2,if_neg h3,if_neg h4,if_pos h5] at hn ⊢
 dsimp only at hn ⊢
 have h39:=(zll (tl1 t) (wd (tl1 t) 0)).1 h5
 rw [zj1 t _ h] at h39
 have hw:zbe (tl1 t) 0=false:=by
  cases hb:zbe (tl1 t) 0 with
  | false =>rfl
  | true =>exact absurd (show zb1 (tl1 t)=false by unfold zb1;rw [hb];simp) h3
 have hr:=rune_ok (s:=tl1 t) (i:=0) (by omega) hw
 rw [Nat.zero_add] at hr
 generalize wd (tl1 t) 0=q at *
 have e:(tl1 t).extract 0 q=t.extract 1 (1+q):=ext2 t 1 q (by omega)
 rw [e] at hr
 refine zgZ (b:=1) (by omega) (by omega) hn (zez (by omega) (fun j _ hj =>?_)) (zgZ (b:=1+q) (by omega) (by omega) hn hr (zez hn (fun j j1 j2 =>?_)))
 ·obtain rfl:j=0:=by omega
  omega
 ·obtain rfl:j=1+q:=by omega
  omega
theorem sgn_ok (t:ByteArray) (h:0 < t.size) (ho:(zck t).2.2=true) (hn:(zck t).2.1≤t.size):zbv (t.extract 0 (zck t).2.1)=none:=by
 have key:∀ j,j < (zck t).2.1→bt t j < 128:=by
  unfold zck at ho ⊢
  repeat' split at ho
  all_goals first | (cases ho;done) | skip
  all_goals simp_all
  all_goals first
   | (intro j hj; obtain rfl | rfl : j = 0 ∨ j = 1 := by omega
      · omega
      · rw [zjL t (by assumption)];decide)
   | omega
 exact zez hn (fun j _ hj =>key j hj)
theorem word_ok (t:ByteArray) (h:0 < t.size) (ho:(zac t).ok=true) (hn:(zac t).n≤t.size):zbv (t.extract 0 (zac t).n)=none:=by
 unfold zac at ho hn ⊢
 split at ho
 ·rename_i hs
  rw [if_pos hs] at hn ⊢
  dsimp only at hn ⊢
  have hnl:zao t=za2 (fun n =>zcd (bt t n)) (min t.size 32) 1:=by unfold zao;rw [if_neg (fun q =>q.elim (by omega) (fun q =>by rw [hs] at q;cases q))]
  refine zez hn (fun j _ hj =>?_)
  by_cases h0:j=0
  ·subst h0;exact zj5 hs
  ·rw [hnl] at hj
   exact stk_lt (zdR (ze5 _ _ (min t.size 32) 1 (by omega) j (by omega) hj).1)
 ·rename_i hs
  rw [if_neg hs] at hn ⊢
  split at ho
  ·rename_i hd
   rw [if_pos hd] at hn ⊢
   dsimp only at hn ⊢
   refine zez hn (fun j _ hj =>?_)
   by_cases h0:j=0
   ·subst h0;exact zkK hd
   ·exact zkK (zki t _ _ 1 j (by omega) hj)
  ·rename_i hd
   rw [if_neg hd] at hn ⊢
   split at ho
   ·rename_i hu
    rw [if_pos hu] at hn ⊢
    have ho2:(zax t).2.2=true:=((Bool.and_eq_true _ _).mp ho).1
    dsimp only at hn ⊢
    unfold zax at ho2 hn ⊢
    split at ho2
    ·cases ho2
    ·rename_i h1
     rw [if_neg h1] at hn ⊢
     split at ho2
     ·cases ho2
     ·rename_i h6
      rw [if_neg h6] at hn ⊢
      refine zez hn (fun j _ hj =>?_)
      by_cases h0:j=0
      ·subst h0;omega
      ·by_cases h11:j=1
       ·subst h11;omega
       ·exact hexI_lt (zit t _ _ 2 j (by omega) hj)
   ·rename_i hu
    rw [if_neg hu] at hn ⊢
    split at ho
    ·rename_i hq
     rw [if_pos hq] at hn ⊢
     exact quo_ok t h hq ho hn
    ·rename_i hq
     rw [if_neg hq] at hn ⊢
     exact sgn_ok t h ho hn
theorem ziX (s:ByteArray):∀ f b x ws,b≤s.size→(cutGo s f b x ws).ok=true→zbv (s.extract b s.size)=none
 | 0,b,x,ws,hb,ho =>by cases ho
 | f+1,b,x,ws,hb,ho =>by
  have hg:=ziM s b hb
  unfold cutGo at ho
  split at ho
  ·cases ho
  ·rename_i hgap
   have hgo:(zd2 (rst s b)).2=true:=Bool.eq_false_or_eq_true _ |>.resolve_right hgap
   have g:=gap_ok (rst s b) (rst s b).size 0 (Nat.zero_le _) (by omega) hgo
   have hgv:zbv (s.extract b (gB s b))=none:=by
    have e:=ext2 s b (zd2 (rst s b)).1 (by have:=hg.2;unfold gB at this;exact this)
    have g3:zbv ((rst s b).extract 0 (zd2 (rst s b)).1)=none:=g.2.2
    rw [← show b+(zd2 (rst s b)).1=gB s b from rfl, ← e]
    exact g3
   split at ho
   ·rename_i hz
    rw [zah] at hz
    have e:gB s b=s.size:=by have:=hg.2;omega
    rw [e] at hgv
    exact hgv
   ·rename_i hz
    rw [zah] at hz
    have hp:0 < (rst s (gB s b)).size:=by rw [zah];omega
    have hle:=zb0 (rst s (gB s b)) hp
    rw [zah] at hle
    split at ho
    ·cases ho
    ·rename_i hw
     have ho2:(zac (rst s (gB s b))).ok=true:=Bool.eq_false_or_eq_true _ |>.resolve_right hw
     have hv:=word_ok (rst s (gB s b)) hp ho2 (by rw [zah];omega)
     have e:=ext2 s (gB s b) (zac (rst s (gB s b))).n (by omega)
     rw [show (s.extract (gB s b) s.size).extract 0 (zac (rst s (gB s b))).n=(rst s (gB s b)).extract 0 (zac (rst s (gB s b))).n from rfl] at e
     rw [e] at hv
     have ih:=ziX s f _ _ _ (by omega) ho
     exact zgZ hg.1 hg.2 (Nat.le_refl _) hgv (zgZ (by omega) (by omega) (Nat.le_refl _) hv ih)
theorem zi6 (s:ByteArray) (ho:(zan s).ok=true):okU s=true:=by
 have h:=ziX s _ 0 (1,1) [] (Nat.zero_le _) ho
 rw [ByteArray.extract_zero_size] at h
 exact okU_badOf.2 h
theorem zjt {s:ByteArray} {k:Nat} {T:TV} (h:zaD s=⟨k,none,T⟩):okU s=true:=by
 cases hw:(zan s).ok with
 | true =>exact zi6 s hw
 | false =>unfold zaD at h;rw [hw,if_neg (by decide)] at h;cases h
end Go.Proofs.YtmdgejgokoadlaaGreatDoor
