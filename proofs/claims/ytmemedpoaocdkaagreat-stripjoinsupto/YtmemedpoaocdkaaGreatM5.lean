/- Texts of this claim, one behind the other. -/
import Derived.Test.YtmemedpoaocdkaaGreatM4
import Derived.Test.YtmemedpoaocdkaaGreatM3
import Derived.Deep.RegionHeld3
/- The runes of a text, as the reference reads them: plain mathematics. -/
namespace Go.Proofs.YtmemedpoaocdkaaGreat
open Go.RowKit Go.Shelf
open Go.Lib (decode_at)
set_option linter.unusedVariables false
theorem zsA (N b0 b1 b2 b3:Nat) (h:(128≤b0∧b0 < 192)∨(248≤b0∧b0 < 256)):Lib.decodeN N b0 b1 b2 b3=(65533,1):=by
 unfold Lib.decodeN
 repeat' split
 all_goals first | rfl | (exfalso;omega)
theorem zsz (N b0 b1 b2 b3:Nat) (h0:192≤b0) (h1:b0 < 224) (hb:b1 < 256):Lib.decodeN N b0 b1 b2 b3=if (1 < N∧128≤b1∧b1 < 192)∧128≤(b0 - 192)*64+(b1 - 128) then ((b0 - 192)*64+(b1 - 128),2) else (65533,1):=by
 have e1:b0 % 32=b0 - 192:=by omega
 unfold Lib.decodeN
 rw [if_neg (by omega),e1]
 by_cases hc:1 < N∧128≤b1∧b1 < 192
 ·have e2:b1 % 64=b1 - 128:=by omega
  rw [if_pos (by omega),e2]
  by_cases hv:128≤(b0 - 192)*64+(b1 - 128)
  ·rw [if_pos hv,if_pos ⟨hc,hv⟩]
  ·rw [if_neg hv,if_neg (fun q =>hv q.2)]
 ·rw [if_neg (by omega),if_neg (by omega),if_neg (by omega),if_neg (fun q =>hc q.1)]
theorem zsy (N b0 b1 b2 b3:Nat) (h0:224≤b0) (h1:b0 < 240) (hb:b1 < 256) (hb2:b2 < 256):Lib.decodeN N b0 b1 b2 b3=if ((1 < N∧128≤b1∧b1 < 192)∧(2 < N∧128≤b2∧b2 < 192))∧2048≤((b0 - 224)*64+(b1 - 128))*64+(b2 - 128)∧(((b0 - 224)*64+(b1 - 128))*64+(b2 - 128) < 55296∨57343 < ((b0 - 224)*64+(b1 - 128))*64+(b2 - 128)) then (((b0 - 224)*64+(b1 - 128))*64+(b2 - 128),3) else (65533,1):=by
 have e1:b0 % 16=b0 - 224:=by omega
 unfold Lib.decodeN
 rw [if_neg (by omega),if_neg (by omega),e1]
 by_cases hc:(1 < N∧128≤b1∧b1 < 192)∧(2 < N∧128≤b2∧b2 < 192)
 ·have e2:b1 % 64=b1 - 128:=by omega
  have e3:b2 % 64=b2 - 128:=by omega
  have e4:(b0 - 224)*4096+(b1 - 128)*64+(b2 - 128)=((b0 - 224)*64+(b1 - 128))*64+(b2 - 128):=by omega
  rw [if_pos (by omega),e2,e3,e4]
  generalize hv:((b0 - 224)*64+(b1 - 128))*64+(b2 - 128)=v
  have hv2:v < 65536:=by omega
  by_cases q:2048≤v∧(v < 55296∨57343 < v)
  ·rw [if_pos (by omega),if_pos ⟨hc,q⟩]
  ·rw [if_neg (by omega),if_neg (fun z =>q z.2)]
 ·rw [if_neg (by omega),if_neg (by omega),if_neg (fun q =>hc q.1)]
theorem zsx (N b0 b1 b2 b3:Nat) (h0:240≤b0) (h1:b0 < 248) (hb:b1 < 256) (hb2:b2 < 256) (hb3:b3 < 256):Lib.decodeN N b0 b1 b2 b3=if ((1 < N∧128≤b1∧b1 < 192)∧(2 < N∧128≤b2∧b2 < 192)∧(3 < N∧128≤b3∧b3 < 192))∧65536≤(((b0 - 240)*64+(b1 - 128))*64+(b2 - 128))*64+(b3 - 128)∧(((b0 - 240)*64+(b1 - 128))*64+(b2 - 128))*64+(b3 - 128)≤1114111 then ((((b0 - 240)*64+(b1 - 128))*64+(b2 - 128))*64+(b3 - 128),4) else (65533,1):=by
 have e1:b0 % 8=b0 - 240:=by omega
 unfold Lib.decodeN
 rw [if_neg (by omega),if_neg (by omega),if_neg (by omega),e1]
 by_cases hc:(1 < N∧128≤b1∧b1 < 192)∧(2 < N∧128≤b2∧b2 < 192)∧(3 < N∧128≤b3∧b3 < 192)
 ·have e2:b1 % 64=b1 - 128:=by omega
  have e3:b2 % 64=b2 - 128:=by omega
  have e5:b3 % 64=b3 - 128:=by omega
  have e4:(b0 - 240)*262144+(b1 - 128)*4096+(b2 - 128)*64+(b3 - 128)=(((b0 - 240)*64+(b1 - 128))*64+(b2 - 128))*64+(b3 - 128):=by omega
  rw [if_pos (by omega),e2,e3,e5,e4]
  generalize hv:(((b0 - 240)*64+(b1 - 128))*64+(b2 - 128))*64+(b3 - 128)=v
  by_cases q:65536≤v∧v≤1114111
  ·rw [if_pos (by omega),if_pos ⟨hc,q⟩]
  ·rw [if_neg (by omega),if_neg (fun z =>q z.2)]
 ·rw [if_neg (by omega),if_neg (fun q =>hc q.1)]
def zdi (s:ByteArray) (i base:Nat):Nat→Nat
 | 0 =>bt s i - base
 | k+1 =>zdi s i base k*64+(bt s (i+(k+1)) - 128)
def zgl (s:ByteArray) (j:Nat):Prop:=j < s.size∧128≤bt s j∧bt s j < 192
theorem zis (s:ByteArray) (i base:Nat) (h:bt s i - base < 32):∀ k,(∀ q,1≤q→q≤k→zgl s (i+q))→zdi s i base k < 32*64 ^ k
 | 0,_ =>by rw [Nat.pow_zero,Nat.mul_one];exact h
 | k+1,hc =>by
  have ih:=zis s i base h k (fun q h1 h2 =>hc q h1 (by omega))
  have hb:=hc (k+1) (by omega) (by omega)
  unfold zgl at hb
  have e:zdi s i base (k+1)=zdi s i base k*64+(bt s (i+(k+1)) - 128):=rfl
  rw [e,Nat.pow_succ]
  generalize 64 ^ k=P at *
  omega
def cls (n:Nat):Nat × Nat × Nat:=match n with
 | 1 =>(192,224,128)
 | 2 =>(224,240,2048)
 | _ =>(240,248,65536)
def zef (v:Nat):Bool:=decide (v≤1114111∧(v < 55296∨57343 < v))
theorem zkz {P C:Prop} [Decidable P] {a b:Nat × Nat} (h:P ↔ C):(C→(if P then a else b)=a)∧(¬ C→(if P then a else b)=b):=⟨fun q =>if_pos (h.2 q),fun q =>if_neg (fun z =>q (h.1 z))⟩
theorem znP (s:ByteArray) (i n:Nat) (hn:n=1∨n=2∨n=3) (h0:(cls n).1≤bt s i) (h1:bt s i < (cls n).2.1) :
  ((∀ q,1≤q→q≤n→zgl s (i+q))∧(cls n).2.2≤zdi s i (cls n).1 n∧zef (zdi s i (cls n).1 n)=true→Utf8.decode s i=(zdi s i (cls n).1 n,n+1))∧(¬ ((∀ q,1≤q→q≤n→zgl s (i+q))∧(cls n).2.2≤zdi s i (cls n).1 n∧zef (zdi s i (cls n).1 n)=true)→Utf8.decode s i=(65533,1)):=by
 rw [decode_at]
 have hb:=fun j =>zfX s j
 have ed:Lib.decodeN (s.size - i) (s.get! i).toNat (s.get! (i+1)).toNat (s.get! (i+2)).toNat (s.get! (i+3)).toNat=Lib.decodeN (s.size - i) (bt s i) (bt s (i+1)) (bt s (i+2)) (bt s (i+3)):=rfl
 rw [ed]
 have q1:=hb (i+1)
 have q2:=hb (i+2)
 have q3:=hb (i+3)
 rcases hn with rfl | rfl | rfl
 ·have e:zdi s i (cls 1).1 1=(bt s i - 192)*64+(bt s (i+1) - 128):=rfl
  rw [zsz _ _ _ _ _ h0 h1 q1,e]
  generalize bt s i=b0 at *
  have hc:(∀ q,1≤q→q≤1→zgl s (i+q)) ↔ (1 < s.size - i∧128≤bt s (i+1)∧bt s (i+1) < 192):=by
   constructor
   ·intro h;have:=h 1 (by omega) (by omega);unfold zgl at this;omega
   ·intro h q a b;obtain rfl:q=1:=by omega
    unfold zgl;omega
  generalize bt s (i+1)=b1 at *
  have hv:(b0 - 192)*64+(b1 - 128) < 55296∨¬ (1 < s.size - i∧128≤b1∧b1 < 192):=by
   have h1':b0 < 224:=h1
   omega
  generalize (b0 - 192)*64+(b1 - 128)=v at *
  refine zkz ?_
  rw [hc]
  unfold zef
  rw [decide_eq_true_iff]
  show _∧128≤v ↔ _∧128≤v∧_
  constructor
  ·rintro ⟨a,b⟩;exact ⟨a,b,by rcases hv with q | q;omega;exact absurd a q⟩
  ·rintro ⟨a,b,_⟩;exact ⟨a,b⟩
 ·have e:zdi s i (cls 2).1 2=((bt s i - 224)*64+(bt s (i+1) - 128))*64+(bt s (i+2) - 128):=rfl
  rw [zsy _ _ _ _ _ h0 h1 q1 q2,e]
  generalize bt s i=b0 at *
  have hc:(∀ q,1≤q→q≤2→zgl s (i+q)) ↔ ((1 < s.size - i∧128≤bt s (i+1)∧bt s (i+1) < 192)∧(2 < s.size - i∧128≤bt s (i+2)∧bt s (i+2) < 192)):=by
   constructor
   ·intro h;have a:=h 1 (by omega) (by omega);have b:=h 2 (by omega) (by omega);unfold zgl at a b;omega
   ·intro h q a b
    rcases (by omega:q=1∨q=2) with rfl | rfl <;> (unfold zgl;omega)
  generalize bt s (i+1)=b1 at *
  generalize bt s (i+2)=b2 at *
  have hv:((b0 - 224)*64+(b1 - 128))*64+(b2 - 128)≤65535∨¬ ((1 < s.size - i∧128≤b1∧b1 < 192)∧(2 < s.size - i∧128≤b2∧b2 < 192)):=by
   have h1':b0 < 240:=h1
   omega
  generalize ((b0 - 224)*64+(b1 - 128))*64+(b2 - 128)=v at *
  refine zkz ?_
  rw [hc]
  unfold zef
  rw [decide_eq_true_iff]
  show _∧2048≤v∧_ ↔ _∧2048≤v∧_
  constructor
  ·rintro ⟨a,b,c⟩;exact ⟨a,b,by rcases hv with q | q;exact ⟨by omega,c⟩;exact absurd a q⟩
  ·rintro ⟨a,b,c⟩;exact ⟨a,b,c.2⟩
 ·have e:zdi s i (cls 3).1 3=(((bt s i - 240)*64+(bt s (i+1) - 128))*64+(bt s (i+2) - 128))*64+(bt s (i+3) - 128):=rfl
  rw [zsx _ _ _ _ _ h0 h1 q1 q2 q3,e]
  generalize bt s i=b0 at *
  have hc:(∀ q,1≤q→q≤3→zgl s (i+q)) ↔ ((1 < s.size - i∧128≤bt s (i+1)∧bt s (i+1) < 192)∧(2 < s.size - i∧128≤bt s (i+2)∧bt s (i+2) < 192)∧(3 < s.size - i∧128≤bt s (i+3)∧bt s (i+3) < 192)):=by
   constructor
   ·intro h;have a:=h 1 (by omega) (by omega);have b:=h 2 (by omega) (by omega);have c:=h 3 (by omega) (by omega);unfold zgl at a b c;omega
   ·intro h q a b
    rcases (by omega:q=1∨q=2∨q=3) with rfl | rfl | rfl <;> (unfold zgl;omega)
  generalize bt s (i+1)=b1 at *
  generalize bt s (i+2)=b2 at *
  generalize bt s (i+3)=b3 at *
  generalize (((b0 - 240)*64+(b1 - 128))*64+(b2 - 128))*64+(b3 - 128)=v at *
  refine zkz ?_
  rw [hc]
  unfold zef
  rw [decide_eq_true_iff]
  show _∧65536≤v∧_ ↔ _∧65536≤v∧_
  constructor
  ·rintro ⟨a,b,c⟩;exact ⟨a,b,by omega⟩
  ·rintro ⟨a,b,c⟩;exact ⟨a,b,by omega⟩
theorem zq4 (s:ByteArray) (i:Nat) (h:bt s i < 128):rn s i=bt s i∧wd s i=1∧zeC s i=false:=by
 have e:Utf8.decode s i=(bt s i,1):=by
  rw [decode_at]
  show Lib.decodeN _ (bt s i) _ _ _=_
  unfold Lib.decodeN
  rw [if_pos h]
 refine ⟨by unfold rn;rw [e],by unfold wd;rw [e], ?_⟩
 unfold zeC rn wd
 rw [e]
 exact decide_eq_false (by dsimp only;omega)
theorem zld (s:ByteArray) (i:Nat) (h:(128≤bt s i∧bt s i < 192)∨248≤bt s i):zeC s i=true:=by
 have hb:=zfX s i
 have e:Utf8.decode s i=(65533,1):=by
  rw [decode_at]
  exact zsA _ _ _ _ _ (by show (128≤bt s i∧bt s i < 192)∨(248≤bt s i∧bt s i < 256);omega)
 unfold zeC rn wd
 rw [e]
 rfl
theorem zkG (s:ByteArray) (i n:Nat) (hn:n=1∨n=2∨n=3) (h0:(cls n).1≤bt s i) (h1:bt s i < (cls n).2.1) (hc:∀ q,1≤q→q≤n→zgl s (i+q)) (hl:(cls n).2.2≤zdi s i (cls n).1 n) (hs:zef (zdi s i (cls n).1 n)=true):rn s i=zdi s i (cls n).1 n∧wd s i=n+1∧zeC s i=false:=by
 have e:=(znP s i n hn h0 h1).1 ⟨hc,hl,hs⟩
 refine ⟨by unfold rn;rw [e],by unfold wd;rw [e], ?_⟩
 unfold zeC rn wd
 rw [e]
 exact decide_eq_false (by dsimp only;omega)
theorem zdw (s:ByteArray) (i n:Nat) (hn:n=1∨n=2∨n=3) (h0:(cls n).1≤bt s i) (h1:bt s i < (cls n).2.1) (hc:¬ ((∀ q,1≤q→q≤n→zgl s (i+q))∧(cls n).2.2≤zdi s i (cls n).1 n∧zef (zdi s i (cls n).1 n)=true)):zeC s i=true:=by
 have e:=(znP s i n hn h0 h1).2 hc
 unfold zeC rn wd
 rw [e]
 rfl
def okU (s:ByteArray):Bool:=Lib.validD s.data.toList
theorem zki {s:ByteArray}:okU s=true ↔ ∀ p ∈ zai s,zeC s p=false:=zgp s s.size 0
structure RuQ (s:ByteArray) (i f:Nat) (zs:List Int):Prop where
 le:i≤s.size
 fu:s.size≤i+f
 rs:zah s=zs++(zak s f i).map (fun p =>((rn s p:Nat):Int))
 ok:okU s=true ↔ ∀ p ∈ zak s f i,zeC s p=false
 ln:zs.length≤i
theorem RuQ.start (s:ByteArray):RuQ s 0 s.size []:=⟨Nat.zero_le _,by omega,rfl,zki,Nat.le_refl _⟩
theorem RuQ.next {s:ByteArray} {i f:Nat} {zs:List Int} (h:RuQ s i f zs) (hi:i < s.size) (hb:zeC s i=false):∃ f',RuQ s (i+wd s i) f' (zs++[((rn s i:Nat):Int)]):=by
 have hfu:=h.fu
 obtain ⟨g,rfl⟩:∃ g,f=g+1:=⟨f - 1,by omega⟩
 have hr:=h.rs
 have ho:=h.ok
 rw [zar s g i hi] at hr ho
 have hw:=zcx s i
 have hl:=h.ln
 refine ⟨g,zdh s i hi,by omega, ?_, ?_,by rw [List.length_append,List.length_singleton];omega⟩
 ·rw [hr,List.map_cons,List.append_assoc];rfl
 ·refine ho.trans ⟨fun q p hp =>q p (List.mem_cons_of_mem _ hp),fun q p hp =>?_⟩
  rcases List.mem_cons.1 hp with rfl | hp
  ·exact hb
  ·exact q p hp
theorem RuQ.bad {s:ByteArray} {i f:Nat} {zs:List Int} (h:RuQ s i f zs) (hi:i < s.size) (hb:zeC s i=true):okU s=false:=by
 have hfu:=h.fu
 obtain ⟨g,rfl⟩:∃ g,f=g+1:=⟨f - 1,by omega⟩
 have ho:=h.ok
 rw [zar s g i hi] at ho
 cases hk:okU s with
 | false =>rfl
 | true =>
  have:=ho.1 hk i (List.mem_cons_self ..)
  rw [hb] at this
  cases this
theorem RuQ.fin {s:ByteArray} {i f:Nat} {zs:List Int} (h:RuQ s i f zs) (hi:¬ i < s.size):okU s=true∧zah s=zs:=by
 have hr:=h.rs
 have ho:=h.ok
 rw [zay s f i hi] at hr ho
 exact ⟨ho.2 (fun p hp =>by cases hp),by rw [hr];simp⟩
end Go.Proofs.YtmemedpoaocdkaaGreat
namespace Go.Proofs.YtmemedpoaocdkaaGreat
open Go.RowKit Go.Shelf
set_option linter.unusedVariables false
def zaK (list:Int) (n:Nat) (f:Nat→Int):Int × Int × Int :=
 match (List.range n).find? (fun j =>f j != 0) with
 | some k =>(f k,list,(k:Int))
 | none =>(0,0,0)
theorem zbf {list:Int} {n:Nat} {f:Nat→Int} (k:Nat) (hk:k < n) (h0:∀ i,i < k→f i=0) (h1:f k≠0):zaK list n f=(f k,list,(k:Int)):=by
 have:(List.range n).find? (fun j =>f j != 0)=some k:=by
  rw [List.find?_range_eq_some]
  exact ⟨by simpa using h1,by simpa using hk,fun j hj =>by simp [h0 j hj]⟩
 unfold zaK
 rw [this]
theorem zbO {list:Int} {n:Nat} {f:Nat→Int} (h0:∀ i,i < n→f i=0):zaK list n f=(0,0,0):=by
 have:(List.range n).find? (fun j =>f j != 0)=none:=by
  rw [List.find?_eq_none]
  intro j hj
  simp [h0 j (by simpa using hj)]
 unfold zaK
 rw [this]
theorem zeh (list:Int) (n:Nat) (f:Nat→Int):(∃ k,k < n∧(∀ i,i < k→f i=0)∧f k≠0∧zaK list n f=(f k,list,(k:Int)))∨((∀ i,i < n→f i=0)∧zaK list n f=(0,0,0)):=by
 cases h:(List.range n).find? (fun j =>f j != 0) with
 | none =>
  refine .inr ⟨fun i hi =>?_,by unfold zaK;rw [h]⟩
  have:=List.find?_eq_none.1 h i (List.mem_range.2 hi)
  simpa using this
 | some k =>
  rw [List.find?_range_eq_some] at h
  obtain ⟨h1,h2,h3⟩:=h
  refine .inl ⟨k,by simpa using h2,fun i hi =>by simpa using h3 i hi,by simpa using h1,zbf k (by simpa using h2) (fun i hi =>by simpa using h3 i hi) (by simpa using h1)⟩
def OkW (x:Int × Int × Int):Prop:=x.1=0→x=(0,0,0)
theorem zbX (list:Int) (n:Nat) (f:Nat→Int):OkW (zaK list n f):=by
 rcases zeh list n f with ⟨k,h1,h2,h3,e⟩ | ⟨h1,e⟩
 ·rw [e];intro h;exact absurd h h3
 ·rw [e];intro _;rfl
def orW:List (Int × Int × Int)→Int × Int × Int
 | [] =>(0,0,0)
 | x::r =>if x.1=0 then orW r else x
theorem zbA:∀ (l:List (Int × Int × Int)),OkW (orW l)
 | [] =>fun _ =>rfl
 | x::r =>by
  show OkW (if x.1=0 then orW r else x)
  by_cases h:x.1=0
  ·rw [if_pos h];exact zbA r
  ·rw [if_neg h];intro h';exact absurd h' h
theorem zad {x:Int × Int × Int} {r:List (Int × Int × Int)} (h:x.1=0):orW (x::r)=orW r:=by
 show (if x.1=0 then orW r else x)=orW r
 rw [if_pos h]
theorem zaj {x:Int × Int × Int} {r:List (Int × Int × Int)} (h:x.1≠0):orW (x::r)=x:=by
 show (if x.1=0 then orW r else x)=x
 rw [if_neg h]
theorem zgQ {l:List (Int × Int × Int)} (h:(orW l).1=0):∀ x ∈ l,x.1=0:=by
 induction l with
 | nil =>intro x hx;cases hx
 | cons y r ih =>
  by_cases hy:y.1=0
  ·rw [zad hy] at h
   intro x hx
   rcases List.mem_cons.1 hx with rfl | hx
   ·exact hy
   ·exact ih h x hx
  ·rw [zaj hy] at h;exact absurd h hy
theorem za5 (l m:List (Int × Int × Int)):orW (l++m)=if (orW l).1=0 then orW m else orW l:=by
 induction l with
 | nil =>simp [orW]
 | cons y r ih =>
  by_cases hy:y.1=0
  ·rw [List.cons_append,zad hy,zad hy,ih]
  ·rw [List.cons_append,zaj hy,zaj hy,if_neg hy]
def zeO (list:Int) (n m:Nat):Int × Int × Int:=if n≤m then (0,0,0) else (4,list,(m:Int))
def zbU (T:TV):Int × Int × Int:=orW [zeO 1 T.sc.length 64,zaK 1 T.sc.length (fun i =>if 1024 < (T.sc.getD i (ByteArray.empty,[])).2.length then 4 else 0),zeO 2 T.co.length 1024,zeO 3 T.ma.length 512,zeO 4 T.pr.length 4096,zeO 5 T.fo.length 4096,zeO 6 T.lk.length 4096,zeO 7 T.dr.length 1024,zeO 8 T.al.length 1024]
def zbQ (c:Nat):Bool:=decide (97≤c∧c≤122)
def zdL (s:ByteArray):Bool:=decide (1≤s.size∧s.size≤32) && (zbQ (bt s 0) && (List.range s.size).all (fun i =>zbQ (bt s i) || decide (bt s i=45∨(48≤bt s i∧bt s i≤57))))
def spW (list:Int) (l:List (Int × Int)):Int × Int × Int:=zaK list l.length (zaV l)
def scF (x:ByteArray × List (Int × Int)):Int:=if zdL x.1 then (spW 1 x.2).1 else 38
def maF (x:Int × Int):Int:=if zaq x.1 then (if x.2 < 1∨254 < x.2 then 30 else 0) else 12
def prF (x:Int × Int × Int):Int:=if zaq x.1 && (zaq x.2.1 && zaq x.2.2) then 0 else 12
def toB (s:ByteArray):Bool:=okU s && decide (1≤(zah s).length∧(zah s).length≤4)
def mpF (x:Int × ByteArray):Int:=if zaq x.1 then (if toB x.2 then 0 else 35) else 12
def sc0:ByteArray × List (Int × Int):=(ByteArray.empty,[])
def ma0:Int × Int:=(0,0)
def pr0:Int × Int × Int:=(0,0,0)
def mp0:Int × ByteArray:=(0,ByteArray.empty)
def zaf {α : Type} (list:Int) (l:List α) (d : α) (f : α→Int):Int × Int × Int:=zaK list l.length (fun i =>f (l.getD i d))
def zbl (T:TV):Int × Int × Int:=orW [zaf 1 T.sc sc0 scF,spW 2 T.co,zaf 3 T.ma ma0 maF,zaf 4 T.pr pr0 prF,zaf 5 T.fo mp0 mpF,zaf 6 T.lk mp0 mpF,spW 7 T.dr,spW 8 T.al]
def twF {α β : Type} [BEq β] (l:List α) (d : α) (key : α→β) (i:Nat):Int:=if (l.take i).any (fun y =>key y == key (l.getD i d)) then 14 else 0
def twP (l:List (Int × Int × Int)) (i:Nat):Int:=if (l.take i).any (fun y =>decide (y.1=(l.getD i pr0).1∨(y.2.1=(l.getD i pr0).2.1∧y.2.2=(l.getD i pr0).2.2))) then 14 else 0
def zbd (T:TV):Int × Int × Int:=orW [zaK 1 T.sc.length (twF T.sc sc0 (fun x =>x.1.data.toList)),zaK 3 T.ma.length (twF T.ma ma0 (fun x =>x.1)),zaK 4 T.pr.length (twP T.pr),zaK 5 T.fo.length (twF T.fo mp0 (fun x =>x.1)),zaK 6 T.lk.length (twF T.lk mp0 (fun x =>x.1))]
def za9 (T:TV) (r:Int):Bool:=T.ma.any (fun x =>x.1 == r)
def zbN (T:TV) (r:Int):Option (Int × Int × Int):=T.pr.find? (fun x =>x.1 == r)
def zdP (T:TV) (r:Int):Bool:=T.pr.any (fun x =>x.1 == r)
def zep (l:List (Int × ByteArray)) (r:Int):Bool:=l.any (fun x =>x.1 == r)
def zbk (T:TV) (r:Int):Int:=match T.ma.find? (fun x =>x.1 == r) with
 | some x =>x.2
 | none =>0
def prE (T:TV) (x:Int × Int × Int):Int:=if za9 T x.1 || (za9 T x.2.1 || !za9 T x.2.2) then 32 else 0
def zcS (T:TV):Nat→Int→Nat→Option Nat
 | 0,_,_ =>none
 | f+1,b,n =>match zbN T b with
  | none =>some n
  | some q =>zcS T f q.2.1 (n+1)
def prR (T:TV) (x:Int × Int × Int):Int:=match zcS T T.pr.length x.2.1 1 with
 | none =>33
 | some n =>if 4 < n then 34 else 0
def drB (T:TV) (r:Int):Bool:=zan T.dr r
def zaR (T:TV) (r:Int):Bool:=zaq r && (!za9 T r && (!zdP T r && (!drB T r && !zep T.fo r)))
def zcl (T:TV):Int × Int × Int:=orW [zaf 3 T.ma ma0 (fun x =>if drB T x.1 then 37 else 0),zaf 4 T.pr pr0 (fun x =>if drB T x.1 || (drB T x.2.1 || drB T x.2.2) then 37 else 0),zaf 5 T.fo mp0 (fun x =>if drB T x.1 then 37 else 0),zaf 6 T.lk mp0 (fun x =>if drB T x.1 then 37 else 0)]
def zcr (T:TV):Int × Int × Int:=orW [zaf 5 T.fo mp0 (fun x =>if za9 T x.1 || zdP T x.1 then 31 else 0),zaf 6 T.lk mp0 (fun x =>if za9 T x.1 || zdP T x.1 then 31 else 0)]
def zit (T:TV):Int × Int × Int:=orW [zaf 5 T.fo mp0 (fun x =>if (zah x.2).any (fun r => !zaR T r) then 35 else 0),zaf 6 T.lk mp0 (fun x =>if (zah x.2).any (fun r => !zaR T r || zep T.lk r) then 36 else 0)]
def zi8 (r:Int):Bool:=decide (r < 32∨r=45∨r=46∨r=65533)
def zgF (r:Int):Bool:=decide (r < 128∨r=65533)
def zfo (s:ByteArray):Bool:=(zah s).any zi8
def zjS (r:Int):Bool:=decide (r=45∨(48≤r∧r≤57)∨(97≤r∧r≤122))
def zbV (list:Int) (l:List (Int × Int)) (must:List Int):Int × Int × Int:=if must.all (fun r =>zan l r) then (0,0,0) else (5,list,0)
def comL:List Int := [45,46,48,49,50,51,52,53,54,55,56,57]
def labL:List Int := [45,48,49,50,51,52,53,54,55,56,57]++(List.range 26).map (fun k =>((97+k:Nat):Int))
def drF (x:Int × Int):Int:=if x.1 < 128∨(x.1≤65533∧65533≤x.2) then 5 else 0
def alF (x:Int × Int):Int:=if (List.range 128).any (fun k =>decide (x.1≤(k:Int)∧(k:Int)≤x.2) && !zjS k) then 5 else 0
def zdt (T:TV):Int × Int × Int:=orW [zbV 2 T.co comL,zaf 3 T.ma ma0 (fun x =>if zgF x.1 then 5 else 0),zaf 4 T.pr pr0 (fun x =>if zgF x.1 then 5 else 0),zaf 5 T.fo mp0 (fun x =>if (zgF x.1 && decide (x.1 < 65∨90 < x.1)) || zfo x.2 then 5 else 0),zaf 6 T.lk mp0 (fun x =>if zi8 x.1 || zfo x.2 then 5 else 0),zaf 7 T.dr ma0 drF,zaf 8 T.al ma0 alF,zbV 8 T.al labL]
def zbR (T:TV):Int × Int × Int:=zaf 4 T.pr pr0 (prE T)
def zdA (T:TV):Int × Int × Int:=zaf 4 T.pr pr0 (prR T)
def zdI (T:TV):Int × Int × Int:=orW [zbU T,zbl T,zbd T,zbR T,zdA T,zcl T,zcr T,zit T,zdt T]
theorem zie (T:TV):OkW (zdI T):=zbA _
def wrV (x:Int × Int × Int):Value := .agg #[.int .i64 x.1,.int .i64 x.2.1,.int .i64 x.2.2]
set_option maxRecDepth 100000 in
theorem zaI (b:Bool) (y:Int) (w:World):Calls Tryz.prog 106 #[.bool b,.int .i64 y] w fun e w' =>e=.returned (.int .i64 (if b=true then y else 0))∧w'=w:=by
 go_enter Tryz.func106,Tryz.ntmps106
 cases b <;> go_wp2 <;> go_ret <;> exact ⟨rfl,rfl⟩
set_option maxRecDepth 100000 in
set_option maxHeartbeats 2000000 in
theorem zcj (list:Int) (n m:Nat) (w:World):Calls Tryz.prog 103 #[.int .i64 list,.int .i64 n,.int .i64 m] w fun e w' =>e=.returned (wrV (zeO list n m))∧Below w.heap.size w w':=by
 have hB:Below w.heap.size w (w.alloc (.cells #[.int .i64 0,.int .i64 0,.int .i64 0] 76)):=(Below.refl _ w).alloc (Nat.le_refl _) _
 by_cases h:n≤m
 ·have h':(n:Int)≤(m:Int):=by omega
  have e:zeO list n m=(0,0,0):=if_pos h
  rw [e]
  go_enter Tryz.func103,Tryz.ntmps103
  go_wp2
  exact bodyPost_ret (v:=wrV (0,0,0)) (by simp [results,Tryz.results103,go_sem,wrV]) rfl ⟨rfl,hB⟩
 ·have h':¬ (n:Int)≤(m:Int):=by omega
  have e:zeO list n m=(4,list,(m:Int)):=if_neg h
  rw [e]
  go_enter Tryz.func103,Tryz.ntmps103
  go_wp2
  exact bodyPost_ret (v:=wrV (4,list,(m:Int))) (by simp [results,Tryz.results103,go_sem,wrV]) rfl ⟨rfl,(Below.refl _ w).alloc (Nat.le_refl _) _⟩
theorem zcw {w:World} {R:Nat} {t:TypeId} {v0 v1 v2:Value} (hb:Blk w R #[v0,v1,v2] t) (x y z:Value):Blk (((w.setCell ⟨R,0,none⟩ x).setCell ⟨R,1,none⟩ y).setCell ⟨R,2,none⟩ z) R #[x,y,z] t:=((hb.set 0 x).set 1 y).set 2 z
theorem zco {fn:Func} {p:Tmp} {tmps:Array Value} {w:World} {R:Nat} {cs:Array Value} (h:fn.results=#[.cell p 76]) (hp:tmps.getD p undef=.pointer (some ⟨R,0,none⟩)) (hb:Blk w R cs 76) (hc:cs.size=3):(results fn tmps).run Tryz.prog w=.ok (.agg cs) w :=
 results_cell_row h tmps w R _ cs _ _ hp hb Tryz.underlying76 rfl (by rw [hc];kernel_rfl)
theorem za0 {lo R:Nat} {W w:World} (h:Below lo W w) (hl:lo≤R) (hs:lo≤w.heap.size) (x y z:Value):Below lo W (((w.setCell ⟨R,0,none⟩ x).setCell ⟨R,1,none⟩ y).setCell ⟨R,2,none⟩ z):=by
 have g1:=zaU w R 0 x
 have g2:=zaU (w.setCell ⟨R,0,none⟩ x) R 1 y
 have g3:=zaU ((w.setCell ⟨R,0,none⟩ x).setCell ⟨R,1,none⟩ y) R 2 z
 exact ((h.grown g1 hs (fun k hk =>by have:=Option.some.inj hk;omega)).grown g2 (Nat.le_trans hs g1.size) (fun k hk =>by have:=Option.some.inj hk;omega)).grown g3 (Nat.le_trans hs (Nat.le_trans g1.size g2.size)) (fun k hk =>by have:=Option.some.inj hk;omega)
def RwW (w:World) (g o:Nat) (l:List (Int × Int × Int)):Prop := ∀ j x,l[j]?=some x→w.cell? ⟨g,o+j*3,none⟩=some (.int .i64 x.1)∧w.cell? ⟨g,o+j*3+1,none⟩=some (.int .i64 x.2.1)∧w.cell? ⟨g,o+j*3+2,none⟩=some (.int .i64 x.2.2)
structure OrS (W w:World):Prop where
 bl:Below W.heap.size W w
 r:Blk w W.heap.size #[.int .i64 0,.int .i64 0,.int .i64 0] 76
 z:Blk w (W.heap.size+1) #[.int .i64 0,.int .i64 0,.int .i64 0] 76
theorem OrS.alloc {W w:World} (h:OrS W w) (o:Obj):OrS W (w.alloc o):=⟨h.bl.alloc h.bl.size o,h.r.alloc o,h.z.alloc o⟩
set_option maxRecDepth 100000 in
set_option maxHeartbeats 2000000 in
theorem zb5 (l:List (Int × Int × Int)) (hl:l.length≤100) (hk:∀ x ∈ l,OkW x) (g o c:Nat) (w:World) (hg:g < w.heap.size) (hc:RwW w g o l) :
  Calls Tryz.prog 102 #[.slice (some ⟨g,o,none⟩) l.length c] w fun e w' =>e=.returned (wrV (orW l))∧Below w.heap.size w w':=by
 have hB0:Below w.heap.size w ((w.alloc (.cells #[.int .i64 0,.int .i64 0,.int .i64 0] 76)).alloc (.cells #[.int .i64 0,.int .i64 0,.int .i64 0] 76)):=((Below.refl _ w).alloc (Nat.le_refl _) _).alloc (by simp) _
 have bR:=(Blk.new w #[.int .i64 0,.int .i64 0,.int .i64 0] 76).alloc (.cells #[.int .i64 0,.int .i64 0,.int .i64 0] 76)
 have bZ:=Blk.new (w.alloc (.cells #[.int .i64 0,.int .i64 0,.int .i64 0] 76)) #[.int .i64 0,.int .i64 0,.int .i64 0] 76
 rw [World.size_alloc] at bZ
 have HS0:Hz (OrS w _):=kz ⟨hB0,bR,bZ⟩
 have HC:=kz hc
 have HK:=kz hk
 clear hB0 bR bZ hc hk
 go_enter Tryz.func102,Tryz.ntmps102
 go_wp2
 generalize (w.alloc (.cells #[.int .i64 0,.int .i64 0,.int .i64 0] 76)).alloc (.cells #[.int .i64 0,.int .i64 0,.int .i64 0] 76)=w1 at *
 go_loopw [5,8] (fun _ s8 wr => ∃ k:Nat,k≤l.length∧s8=.int .i64 k∧Hz (orW l=orW (l.drop k))∧Hz (OrS w wr)) (fun _ s8 _ =>l.length - (intOf s8).toNat)
 case atStart =>exact ⟨0,by omega,rfl,kz (by rw [List.drop_zero]),HS0⟩
 case round =>
  obtain ⟨k,hkl,rfl,HO,HS⟩:=hrel
  clear HS0
  by_cases hkn:k < l.length
  ·obtain ⟨x,hx⟩:∃ x,l[k]?=some x:=⟨_,List.getElem?_eq_getElem hkn⟩
   have hd:l.drop k=x::l.drop (k+1):=by
    rw [List.drop_eq_getElem_cons hkn]
    congr 1
    exact Option.some.inj ((List.getElem?_eq_getElem hkn).symm.trans hx)
   obtain ⟨e0,e1,e2⟩:=oz HC k x hx
   have c0:wr.cell? ⟨g,o+k*3,none⟩=some (.int .i64 x.1):=((oz HS).bl.cell (p:=⟨g,o+k*3,none⟩) hg).trans e0
   have c1:wr.cell? ⟨g,o+k*3+1,none⟩=some (.int .i64 x.2.1):=((oz HS).bl.cell (p:=⟨g,o+k*3+1,none⟩) hg).trans e1
   have c2:wr.cell? ⟨g,o+k*3+2,none⟩=some (.int .i64 x.2.2):=((oz HS).bl.cell (p:=⟨g,o+k*3+2,none⟩) hg).trans e2
   have hk1:(k:Int) < (l.length:Int):=by omega
   have hk2:((k:Nat):Int).toNat=k:=by omega
   clear e0 e1 e2
   by_cases hx0:x.1=0
   ·have HO2:Hz (orW l=orW (l.drop (k+1))):=kz (by rw [oz HO,hd,zad hx0])
    obtain rfl:=oz HK x (List.mem_of_getElem? hx) hx0
    dsimp only at c0 c1 c2
    have HS2:=kz ((oz HS).alloc (.cells #[.int .i64 0,.int .i64 0,.int .i64 0] 76))
    have z0:=(oz HS2).z.cell 0
    have z1:=(oz HS2).z.cell 1
    have z2:=(oz HS2).z.cell 2
    clear hx hd hx0 HO HS
    go_wp2_with fail
    exact ⟨⟨k+1,by omega,by go_num,HO2,HS2⟩,by simp [intOf];omega⟩
   ·have HO2:Hz (orW l=x):=kz (by rw [oz HO,hd,zaj hx0])
    obtain ⟨x0,x1,x2⟩:=x
    dsimp only at c0 c1 c2 hx0
    have HS2:=kz ((oz HS).alloc (.cells #[.int .i64 x0,.int .i64 x1,.int .i64 x2] 76))
    have z0:=(oz HS2).z.cell 0
    have z1:=(oz HS2).z.cell 1
    have z2:=(oz HS2).z.cell 2
    have r0:=(oz HS2).r.cell 0
    have r1:=(oz HS2).r.cell 1
    have r2:=(oz HS2).r.cell 2
    have f0:=(oz HS2).r.frozen 0
    have f1:=(oz HS2).r.frozen 1
    have f2:=(oz HS2).r.frozen 2
    have q0:(x0 == 0)=false:=by simpa using hx0
    clear hx hd hx0 HO HS
    go_wp2_with fail
    rw [oz HO2]
    exact bodyPost_ret (v:=wrV (x0,x1,x2)) (zco Tryz.results102 rfl (zcw (oz HS2).r _ _ _) rfl) rfl ⟨rfl,za0 (oz HS2).bl (Nat.le_refl _) (oz HS2).bl.size _ _ _⟩
  ·have hk1:¬ (k:Int) < (l.length:Int):=by omega
   have HO2:Hz (orW l=(0,0,0)):=kz (by rw [oz HO,List.drop_of_length_le (by omega)];rfl)
   have z0:=(oz HS).z.cell 0
   have z1:=(oz HS).z.cell 1
   have z2:=(oz HS).z.cell 2
   have r0:=(oz HS).r.cell 0
   have r1:=(oz HS).r.cell 1
   have r2:=(oz HS).r.cell 2
   have f0:=(oz HS).r.frozen 0
   have f1:=(oz HS).r.frozen 1
   have f2:=(oz HS).r.frozen 2
   go_wp2_with fail
   rw [oz HO2]
   exact bodyPost_ret (v:=wrV (0,0,0)) (zco Tryz.results102 rfl (zcw (oz HS).r _ _ _) rfl) rfl ⟨rfl,za0 (oz HS).bl (Nat.le_refl _) (oz HS).bl.size _ _ _⟩
def zh4 (zs:List (Int × Int)) (x:Int × Int):List (Int × Int) :=
 match zs.getLast? with
 | some y =>if zae x.1≤zae y.2+1 then zs.dropLast++[(y.1,max y.2 x.2)] else zs++[x]
 | none => [x]
theorem zgS (x:Int × Int):zh4 [] x=[x]:=rfl
theorem zd4 (ys:List (Int × Int)) (y x:Int × Int) (h:zae x.1≤zae y.2+1):zh4 (ys++[y]) x=ys++[(y.1,max y.2 x.2)]:=by
 unfold zh4
 rw [List.getLast?_concat,List.dropLast_concat]
 simp only [if_pos h]
theorem zd5 (ys:List (Int × Int)) (y x:Int × Int) (h:¬ zae x.1≤zae y.2+1):zh4 (ys++[y]) x=ys++[y]++[x]:=by
 unfold zh4
 rw [List.getLast?_concat]
 simp only [if_neg h]
theorem ziL {ys:List (Int × Int)} {y x:Int × Int} {i:Nat} (h:(ys++[y])[i]?=some x):(i < ys.length∧ys[i]?=some x)∨(i=ys.length∧x=y):=by
 rcases Nat.lt_trichotomy i ys.length with a | a | a
 ·rw [List.getElem?_append_left a] at h;exact .inl ⟨a,h⟩
 ·subst a;simp at h;exact .inr ⟨rfl,h.symm⟩
 ·rw [List.getElem?_append_right (by omega)] at h
  have:=(List.getElem?_eq_some_iff.1 h).1
  simp at this;omega
theorem Spread.init {ys:List (Int × Int)} {y:Int × Int} (h:Spread (ys++[y])):Spread ys where
 ends x hx:=h.ends x (by simp [hx])
 apart i j x z hij hx hz:=by
  have hi:=(List.getElem?_eq_some_iff.1 hx).1
  have hj:=(List.getElem?_eq_some_iff.1 hz).1
  exact h.apart i j x z hij (by rw [List.getElem?_append_left hi];exact hx) (by rw [List.getElem?_append_left hj];exact hz)
theorem Spread.last {ys:List (Int × Int)} {y:Int × Int} (h:Spread (ys++[y])) (x:Int × Int) (hx:x ∈ ys):zae x.2+1 < zae y.1:=by
 obtain ⟨i,hi,rfl⟩:=List.mem_iff_getElem.1 hx
 exact h.apart i ys.length _ _ hi (by rw [List.getElem?_append_left hi,List.getElem?_eq_getElem hi]) (by simp)
theorem Spread.snoc {ys:List (Int × Int)} {y:Int × Int} (h:Spread ys) (he:za8 y=true) (hy:y.1≤y.2) (ha:∀ x ∈ ys,zae x.2+1 < zae y.1):Spread (ys++[y]) where
 ends x hx:=by
  rcases List.mem_append.1 hx with a | a
  ·exact h.ends x a
  ·simp at a;subst a;exact ⟨he,hy⟩
 apart i j x z hij hx hz:=by
  rcases ziL hz with ⟨a,b⟩ | ⟨a,b⟩
  ·rcases ziL hx with ⟨c,d⟩ | ⟨c,d⟩
   ·exact h.apart i j x z hij d b
   ·omega
  ·rcases ziL hx with ⟨c,d⟩ | ⟨c,d⟩
   ·subst b;exact ha x (List.mem_of_getElem? d)
   ·omega
theorem zb3 {a b:Int} (ha:a < 55296∨57343 < a) (hb:b < 55296∨57343 < b):zae a≤zae b ↔ a≤b:=by
 have:=zhf hb ha
 omega
theorem ziT {x:Int × Int} (h1:zaq x.1=true) (h2:zaq x.2=true):za8 x=true:=by unfold za8;rw [h1,h2];rfl
theorem za6 {x:Int × Int} (h:za8 x=true):zaq x.1=true∧zaq x.2=true:=by unfold za8 at h;rwa [Bool.and_eq_true] at h
theorem zdr {zs:List (Int × Int)} {x:Int × Int} (h:Spread zs) (he:za8 x=true) (hx:x.1≤x.2) (hl:∀ y ∈ zs,y.1≤x.1):Spread (zh4 zs x):=by
 rcases List.eq_nil_or_concat zs with rfl | ⟨ys,y,rfl⟩
 ·rw [zgS]
  exact Spread.snoc (ys := []) ⟨fun x h =>by simp at h,fun i j x y _ h =>by simp at h⟩ he hx (fun x h =>by simp at h)
 ·rw [List.concat_eq_append] at *
  have hy:=h.ends y (by simp)
  by_cases t:zae x.1≤zae y.2+1
  ·rw [zd4 _ _ _ t]
   refine Spread.snoc h.init ?_ (by show y.1≤max y.2 x.2;have:=hy.2;omega) (fun z hz =>h.last z hz)
   refine ziT (za6 hy.1).1 ?_
   show zaq (max y.2 x.2)=true
   rcases Int.le_total y.2 x.2 with a | a
   ·rw [Int.max_eq_right a];exact (za6 he).2
   ·rw [Int.max_eq_left a];exact (za6 hy.1).2
  ·rw [zd5 _ _ _ t]
   refine Spread.snoc h he hx (fun z hz =>?_)
   rcases List.mem_append.1 hz with a | a
   ·have h1:=h.last z a
    have h2:=zas hy.1
    have h3:=(zb3 h2.1.2.2 h2.2.2.2).2 hy.2
    omega
   ·simp at a;subst a;omega
theorem zbI (xs ys:List (Int × Int)) (r:Int):zan (xs++ys) r=(zan xs r || zan ys r):=by
 unfold zan
 rw [List.any_append,Bool.and_or_distrib_right]
theorem zaD (zs:List (Int × Int)) (r:Int):zan zs r=true ↔ (∃ x ∈ zs,x.1≤r∧r≤x.2)∧zaq r=true:=by
 unfold zan
 simp
theorem zgT {zs:List (Int × Int)} {x:Int × Int} (h:Spread zs) (he:za8 x=true) (hx:x.1≤x.2) (hl:∀ y ∈ zs,y.1≤x.1) (r:Int):zan (zh4 zs x) r=(zan zs r || zan [x] r):=by
 rcases List.eq_nil_or_concat zs with rfl | ⟨ys,y,rfl⟩
 ·rw [zgS];simp [zan]
 ·rw [List.concat_eq_append] at *
  have hy:=h.ends y (by simp)
  by_cases t:zae x.1≤zae y.2+1
  ·rw [zd4 _ _ _ t,zbI,zbI,Bool.or_assoc]
   congr 1
   have h1:=zas hy.1
   have h2:=zas he
   have h3:=hl y (by simp)
   rw [Bool.eq_iff_iff,Bool.or_eq_true,zaD,zaD,zaD]
   simp only [List.mem_singleton,exists_eq_left]
   constructor
   ·rintro ⟨⟨a,b⟩,c⟩
    have d:=za3 c
    by_cases e:r≤y.2
    ·exact .inl ⟨⟨a,e⟩,c⟩
    ·have f:=(zhf h1.2.2.2 d.2.2).2 (by omega)
     have g:=(zb3 h2.1.2.2 d.2.2).1 (by omega)
     exact .inr ⟨⟨g,by omega⟩,c⟩
   ·rintro (⟨⟨a,b⟩,c⟩ | ⟨⟨a,b⟩,c⟩)
    ·exact ⟨⟨a,by omega⟩,c⟩
    ·exact ⟨⟨by omega,by omega⟩,c⟩
  ·rw [zd5 _ _ _ t,zbI]
theorem zfs (zs:List (Int × Int)) (x:Int × Int):(zh4 zs x).length≤zs.length+1:=by
 rcases List.eq_nil_or_concat zs with rfl | ⟨ys,y,rfl⟩
 ·rw [zgS];simp
 ·rw [List.concat_eq_append]
  by_cases t:zae x.1≤zae y.2+1
  ·rw [zd4 _ _ _ t];simp
  ·rw [zd5 _ _ _ t];simp
theorem zpt (zs:List (Int × Int)) (x z:Int × Int) (h:z ∈ zh4 zs x):(∃ y ∈ zs,z.1=y.1)∨z.1=x.1:=by
 rcases List.eq_nil_or_concat zs with rfl | ⟨ys,y,rfl⟩
 ·rw [zgS] at h;simp at h;subst h;exact .inr rfl
 ·rw [List.concat_eq_append] at *
  by_cases t:zae x.1≤zae y.2+1
  ·rw [zd4 _ _ _ t] at h
   rcases List.mem_append.1 h with a | a
   ·exact .inl ⟨z,by simp [a],rfl⟩
   ·simp at a;subst a;exact .inl ⟨y,by simp,rfl⟩
  ·rw [zd5 _ _ _ t] at h
   rcases List.mem_append.1 h with a | a
   ·exact .inl ⟨z,a,rfl⟩
   ·simp at a;subst a;exact .inr rfl
def zbZ (l:List (Int × Int)):List (Int × Int):=l.foldl zh4 []
theorem zhn (l:List (Int × Int)) (x:Int × Int):zbZ (l++[x])=zh4 (zbZ l) x:=by simp [zbZ]
def zbb (l:List (Int × Int)):Prop := ∀ x ∈ l,za8 x=true∧x.1≤x.2
def RisingL (l:List (Int × Int)):Prop := ∀ (i j:Nat) (x y:Int × Int),i < j→l[i]?=some x→l[j]?=some y→x.1≤y.1
theorem RisingL.init {ys:List (Int × Int)} {y:Int × Int} (h:RisingL (ys++[y])):RisingL ys:=fun i j x z hij hx hz =>by
 have hi:=(List.getElem?_eq_some_iff.1 hx).1
 have hj:=(List.getElem?_eq_some_iff.1 hz).1
 exact h i j x z hij (by rw [List.getElem?_append_left hi];exact hx) (by rw [List.getElem?_append_left hj];exact hz)
theorem zh5 (n:Nat):∀ (l:List (Int × Int)),l.length=n→zbb l→RisingL l→Spread (zbZ l)∧(∀ r,zan (zbZ l) r=zan l r)∧(zbZ l).length≤l.length∧(∀ z ∈ zbZ l, ∃ y ∈ l,z.1=y.1):=by
 induction n with
 | zero =>
  intro l hl _ _
  have:=List.eq_nil_of_length_eq_zero hl
  subst this
  exact ⟨⟨fun x h =>by simp [zbZ] at h,fun i j x y _ h =>by simp [zbZ] at h⟩,fun r =>rfl,by simp [zbZ],fun z h =>by simp [zbZ] at h⟩
 | succ n ih =>
  intro l hl hR hO
  rcases List.eq_nil_or_concat l with rfl | ⟨ys,y,rfl⟩
  ·simp at hl
  ·rw [List.concat_eq_append] at *
   simp at hl
   obtain ⟨h1,h2,h3,h4⟩:=ih ys hl (fun x hx =>hR x (by simp [hx])) hO.init
   have hy:=hR y (by simp)
   have hle:∀ z ∈ zbZ ys,z.1≤y.1:=fun z hz =>by
    obtain ⟨u,hu,e⟩:=h4 z hz
    obtain ⟨i,hi,rfl⟩:=List.mem_iff_getElem.1 hu
    rw [e]
    exact hO i ys.length _ _ hi (by rw [List.getElem?_append_left hi,List.getElem?_eq_getElem hi]) (by simp)
   rw [zhn]
   refine ⟨zdr h1 hy.1 hy.2 hle,fun r =>?_, ?_,fun z hz =>?_⟩
   ·rw [zgT h1 hy.1 hy.2 hle,h2,zbI]
   ·have:=zfs (zbZ ys) y
    simp;omega
   ·rcases zpt _ _ _ hz with ⟨u,hu,e⟩ | e
    ·obtain ⟨v,hv,e'⟩:=h4 u hu
     exact ⟨v,by simp [hv],e.trans e'⟩
    ·exact ⟨y,by simp,e⟩
theorem Spread.tail {x:Int × Int} {zs:List (Int × Int)} (h:Spread (x::zs)):Spread zs :=
 ⟨fun y hy =>h.ends y (List.mem_cons_of_mem _ hy),fun i j y z hij hy hz =>h.apart (i+1) (j+1) y z (by omega) (by simpa using hy) (by simpa using hz)⟩
theorem Spread.head {x y:Int × Int} {zs:List (Int × Int)} (h:Spread (x::zs)) (hy:y ∈ zs):zae x.2+1 < zae y.1:=by
 obtain ⟨i,hi,rfl⟩:=List.mem_iff_getElem.1 hy
 exact h.apart 0 (i+1) _ _ (by omega) (by simp) (by simp [hi])
theorem Spread.head_lt {x y:Int × Int} {zs:List (Int × Int)} (h:Spread (x::zs)) (hy:y ∈ zs):x.2 < y.1:=by
 have a:=zas (h.ends x (by simp)).1
 have b:=zas (h.ends y (by simp [hy])).1
 have:=h.head hy
 exact (zhf a.2.2.2 b.1.2.2).1 (by omega)
theorem zpB {x:Int × Int} {zs:List (Int × Int)} (h:Spread (x::zs)):zan (x::zs) x.1=true∧zan (x::zs) x.2=true:=by
 have a:=h.ends x (by simp)
 have b:=za6 a.1
 exact ⟨(zaD _ _).2 ⟨⟨x,by simp,by omega,a.2⟩,b.1⟩,(zaD _ _).2 ⟨⟨x,by simp,a.2,by omega⟩,b.2⟩⟩
theorem zng {xs ys:List (Int × Int)} (h:xs.Perm ys) (r:Int):zan xs r=zan ys r:=by
 rw [Bool.eq_iff_iff,zaD,zaD]
 constructor
 ·rintro ⟨⟨x,a,b⟩,c⟩;exact ⟨⟨x,h.mem_iff.1 a,b⟩,c⟩
 ·rintro ⟨⟨x,a,b⟩,c⟩;exact ⟨⟨x,h.mem_iff.2 a,b⟩,c⟩
end Go.Proofs.YtmemedpoaocdkaaGreat
