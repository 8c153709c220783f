/- Texts of this claim, one behind the other. -/
import Derived.Test.YthchopdfmchpkaaGreatM3
import Derived.Deep.RegionHeld3
namespace Go.Proofs.YthchopdfmchpkaaGreat
set_option linter.unusedVariables false
section
open Go.RowKit Go.Shelf
open Go.Lib (decode_at)
theorem zla (N b0 b1 b2 b3:Nat) (h:(128≤b0∧b0 < 192)∨(248≤b0∧b0 < 256)):Lib.decodeN N b0 b1 b2 b3=(65533,1):=by
 unfold Lib.decodeN;repeat' split
 all_goals first | rfl | (exfalso;omega)
theorem zk9 (N b0 b1 b2 b3:Nat) (h0:192≤b0) (h1:b0 < 224) (hb:b1 < 256):Lib.decodeN N b0 b1 b2 b3=if (1 < N∧128≤b1∧b1 < 192)∧128≤(b0 - 192)*64+(b1 - 128) then ((b0 - 192)*64+(b1 - 128),2) else (65533,1):=by
 have e1:b0 % 32=b0 - 192:=by omega
 unfold Lib.decodeN;rw [if_neg (by omega),e1];by_cases hc:1 < N∧128≤b1∧b1 < 192
 ·have e2:b1 % 64=b1 - 128:=by omega
  rw [if_pos (by omega),e2];by_cases hv:128≤(b0 - 192)*64+(b1 - 128)
  ·rw [if_pos hv,if_pos ⟨hc,hv⟩]
  ·rw [if_neg hv,if_neg (fun q =>hv q.2)]
 ·rw [if_neg (by omega),if_neg (by omega),if_neg (by omega),if_neg (fun q =>hc q.1)]
theorem zk8 (N b0 b1 b2 b3:Nat) (h0:224≤b0) (h1:b0 < 240) (hb:b1 < 256) (hb2:b2 < 256):Lib.decodeN N b0 b1 b2 b3=if ((1 < N∧128≤b1∧b1 < 192)∧(2 < N∧128≤b2∧b2 < 192))∧2048≤((b0 - 224)*64+(b1 - 128))*64+(b2 - 128)∧(((b0 - 224)*64+(b1 - 128))*64+(b2 - 128) < 55296∨57343 < ((b0 - 224)*64+(b1 - 128))*64+(b2 - 128)) then (((b0 - 224)*64+(b1 - 128))*64+(b2 - 128),3) else (65533,1):=by
 have e1:b0 % 16=b0 - 224:=by omega
 unfold Lib.decodeN;rw [if_neg (by omega),if_neg (by omega),e1];by_cases hc:(1 < N∧128≤b1∧b1 < 192)∧(2 < N∧128≤b2∧b2 < 192)
 ·have e2:b1 % 64=b1 - 128:=by omega
  have e3:b2 % 64=b2 - 128:=by omega
  have e4:(b0 - 224)*4096+(b1 - 128)*64+(b2 - 128)=((b0 - 224)*64+(b1 - 128))*64+(b2 - 128):=by omega
  rw [if_pos (by omega),e2,e3,e4];generalize hv:((b0 - 224)*64+(b1 - 128))*64+(b2 - 128)=v;have hv2:v < 65536:=by omega
  by_cases q:2048≤v∧(v < 55296∨57343 < v)
  ·rw [if_pos (by omega),if_pos ⟨hc,q⟩]
  ·rw [if_neg (by omega),if_neg (fun z =>q z.2)]
 ·rw [if_neg (by omega),if_neg (by omega),if_neg (fun q =>hc q.1)]
theorem zk7 (N b0 b1 b2 b3:Nat) (h0:240≤b0) (h1:b0 < 248) (hb:b1 < 256) (hb2:b2 < 256) (hb3:b3 < 256):Lib.decodeN N b0 b1 b2 b3=if ((1 < N∧128≤b1∧b1 < 192)∧(2 < N∧128≤b2∧b2 < 192)∧(3 < N∧128≤b3∧b3 < 192))∧65536≤(((b0 - 240)*64+(b1 - 128))*64+(b2 - 128))*64+(b3 - 128)∧(((b0 - 240)*64+(b1 - 128))*64+(b2 - 128))*64+(b3 - 128)≤1114111 then ((((b0 - 240)*64+(b1 - 128))*64+(b2 - 128))*64+(b3 - 128),4) else (65533,1):=by
 have e1:b0 % 8=b0 - 240:=by omega
 unfold Lib.decodeN;rw [if_neg (by omega),if_neg (by omega),if_neg (by omega),e1];by_cases hc:(1 < N∧128≤b1∧b1 < 192)∧(2 < N∧128≤b2∧b2 < 192)∧(3 < N∧128≤b3∧b3 < 192)
 ·have e2:b1 % 64=b1 - 128:=by omega
  have e3:b2 % 64=b2 - 128:=by omega
  have e5:b3 % 64=b3 - 128:=by omega
  have e4:(b0 - 240)*262144+(b1 - 128)*4096+(b2 - 128)*64+(b3 - 128)=(((b0 - 240)*64+(b1 - 128))*64+(b2 - 128))*64+(b3 - 128):=by omega
  rw [if_pos (by omega),e2,e3,e5,e4];generalize hv:(((b0 - 240)*64+(b1 - 128))*64+(b2 - 128))*64+(b3 - 128)=v;by_cases q:65536≤v∧v≤1114111
  ·rw [if_pos (by omega),if_pos ⟨hc,q⟩]
  ·rw [if_neg (by omega),if_neg (fun z =>q z.2)]
 ·rw [if_neg (by omega),if_neg (fun q =>hc q.1)]
def qD (s:ByteArray) (i base:Nat):Nat→Nat
 | 0 =>bt s i - base
 | k+1 =>qD s i base k*64+(bt s (i+(k+1)) - 128)
def Y3 (s:ByteArray) (j:Nat):Prop:=j < s.size∧128≤bt s j∧bt s j < 192
theorem KG (s:ByteArray) (i base:Nat) (h:bt s i - base < 32):∀ k,(∀ q,1≤q→q≤k→Y3 s (i+q))→qD s i base k < 32*64 ^ k
 | 0,_ =>by rw [Nat.pow_zero,Nat.mul_one];exact h
 | k+1,hc =>by
  have ih:=KG s i base h k (fun q h1 h2 =>hc q h1 (by omega));have hb:=hc (k+1) (by omega) (by omega);unfold Y3 at hb;have e:qD s i base (k+1)=qD s i base k*64+(bt s (i+(k+1)) - 128):=rfl;rw [e,Nat.pow_succ];generalize 64 ^ k=P at *;omega
def cls (n:Nat):Nat × Nat × Nat:=match n with
 | 1 =>(192,224,128)
 | 2 =>(224,240,2048)
 | _ =>(240,248,65536)
def Yc (v:Nat):Bool:=decide (v≤1114111∧(v < 55296∨57343 < v))
theorem zb5 {P C:Prop} [Decidable P] {a b:Nat × Nat} (h:P ↔ C):(C→(if P then a else b)=a)∧(¬ C→(if P then a else b)=b):=⟨fun q =>if_pos (h.2 q),fun q =>if_neg (fun z =>q (h.1 z))⟩
theorem zfj (s:ByteArray) (i n:Nat) (hn:n=1∨n=2∨n=3) (h0:(cls n).1≤bt s i) (h1:bt s i < (cls n).2.1) :
  ((∀ q,1≤q→q≤n→Y3 s (i+q))∧(cls n).2.2≤qD s i (cls n).1 n∧Yc (qD s i (cls n).1 n)=true→Utf8.decode s i=(qD s i (cls n).1 n,n+1))∧(¬ ((∀ q,1≤q→q≤n→Y3 s (i+q))∧(cls n).2.2≤qD s i (cls n).1 n∧Yc (qD s i (cls n).1 n)=true)→Utf8.decode s i=(65533,1)):=by
 rw [decode_at];have hb:=fun j =>Yr s j
 have ed:Lib.decodeN (s.size - i) (s.get! i).toNat (s.get! (i+1)).toNat (s.get! (i+2)).toNat (s.get! (i+3)).toNat=Lib.decodeN (s.size - i) (bt s i) (bt s (i+1)) (bt s (i+2)) (bt s (i+3)):=rfl;rw [ed];have q1:=hb (i+1);have q2:=hb (i+2);have q3:=hb (i+3);rcases hn with rfl | rfl | rfl
 ·have e:qD s i (cls 1).1 1=(bt s i - 192)*64+(bt s (i+1) - 128):=rfl;rw [zk9 _ _ _ _ _ h0 h1 q1,e];generalize bt s i=b0 at *;have hc:(∀ q,1≤q→q≤1→Y3 s (i+q)) ↔ (1 < s.size - i∧128≤bt s (i+1)∧bt s (i+1) < 192):=by
   constructor
   ·intro h;have:=h 1 (by omega) (by omega);unfold Y3 at this;omega
   ·intro h q a b;obtain rfl:q=1:=by omega
    unfold Y3;omega
  generalize bt s (i+1)=b1 at *;have hv:(b0 - 192)*64+(b1 - 128) < 55296∨¬ (1 < s.size - i∧128≤b1∧b1 < 192):=by
   have h1':b0 < 224:=h1;omega
  generalize (b0 - 192)*64+(b1 - 128)=v at *;refine zb5 ?_;rw [hc];unfold Yc;rw [decide_eq_true_iff];show _∧128≤v ↔ _∧128≤v∧_;constructor
  ·rintro ⟨a,b⟩;exact ⟨a,b,by rcases hv with q | q;omega;exact absurd a q⟩
  ·rintro ⟨a,b,_⟩;exact ⟨a,b⟩
 ·have e:qD s i (cls 2).1 2=((bt s i - 224)*64+(bt s (i+1) - 128))*64+(bt s (i+2) - 128):=rfl;rw [zk8 _ _ _ _ _ h0 h1 q1 q2,e];generalize bt s i=b0 at *;have hc:(∀ q,1≤q→q≤2→Y3 s (i+q)) ↔ ((1 < s.size - i∧128≤bt s (i+1)∧bt s (i+1) < 192)∧(2 < s.size - i∧128≤bt s (i+2)∧bt s (i+2) < 192)):=by
   constructor
   ·intro h;have a:=h 1 (by omega) (by omega);have b:=h 2 (by omega) (by omega);unfold Y3 at a b;omega
   ·intro h q a b;rcases (by omega:q=1∨q=2) with rfl | rfl <;> (unfold Y3;omega)
  generalize bt s (i+1)=b1 at *;generalize bt s (i+2)=b2 at *;have hv:((b0 - 224)*64+(b1 - 128))*64+(b2 - 128)≤65535∨¬ ((1 < s.size - i∧128≤b1∧b1 < 192)∧(2 < s.size - i∧128≤b2∧b2 < 192)):=by
   have h1':b0 < 240:=h1;omega
  generalize ((b0 - 224)*64+(b1 - 128))*64+(b2 - 128)=v at *;refine zb5 ?_;rw [hc];unfold Yc;rw [decide_eq_true_iff];show _∧2048≤v∧_ ↔ _∧2048≤v∧_;constructor
  ·rintro ⟨a,b,c⟩;exact ⟨a,b,by rcases hv with q | q;exact ⟨by omega,c⟩;exact absurd a q⟩
  ·rintro ⟨a,b,c⟩;exact ⟨a,b,c.2⟩
 ·have e:qD s i (cls 3).1 3=(((bt s i - 240)*64+(bt s (i+1) - 128))*64+(bt s (i+2) - 128))*64+(bt s (i+3) - 128):=rfl;rw [zk7 _ _ _ _ _ h0 h1 q1 q2 q3,e];generalize bt s i=b0 at *;have hc:(∀ q,1≤q→q≤3→Y3 s (i+q)) ↔ ((1 < s.size - i∧128≤bt s (i+1)∧bt s (i+1) < 192)∧(2 < s.size - i∧128≤bt s (i+2)∧bt s (i+2) < 192)∧(3 < s.size - i∧128≤bt s (i+3)∧bt s (i+3) < 192)):=by
   constructor
   ·intro h;have a:=h 1 (by omega) (by omega);have b:=h 2 (by omega) (by omega);have c:=h 3 (by omega) (by omega);unfold Y3 at a b c;omega
   ·intro h q a b;rcases (by omega:q=1∨q=2∨q=3) with rfl | rfl | rfl <;> (unfold Y3;omega)
  generalize bt s (i+1)=b1 at *;generalize bt s (i+2)=b2 at *;generalize bt s (i+3)=b3 at *;generalize (((b0 - 240)*64+(b1 - 128))*64+(b2 - 128))*64+(b3 - 128)=v at *;refine zb5 ?_;rw [hc];unfold Yc;rw [decide_eq_true_iff];show _∧65536≤v∧_ ↔ _∧65536≤v∧_;constructor
  ·rintro ⟨a,b,c⟩;exact ⟨a,b,by omega⟩
  ·rintro ⟨a,b,c⟩;exact ⟨a,b,by omega⟩
theorem zjC (s:ByteArray) (i:Nat) (h:bt s i < 128):rn s i=bt s i∧wd s i=1∧j6 s i=false:=by
 have e:Utf8.decode s i=(bt s i,1):=by
  rw [decode_at];show Lib.decodeN _ (bt s i) _ _ _=_;unfold Lib.decodeN;rw [if_pos h]
 refine ⟨by unfold rn;rw [e],by unfold wd;rw [e], ?_⟩;unfold j6 rn wd;rw [e];exact Zq (by dsimp only;omega)
theorem zdp (s:ByteArray) (i:Nat) (h:(128≤bt s i∧bt s i < 192)∨248≤bt s i):j6 s i=true:=by
 have hb:=Yr s i;have e:Utf8.decode s i=(65533,1):=by
  rw [decode_at];exact zla _ _ _ _ _ (by show (128≤bt s i∧bt s i < 192)∨(248≤bt s i∧bt s i < 256);omega)
 unfold j6 rn wd;rw [e];rfl
theorem zb8 (s:ByteArray) (i n:Nat) (hn:n=1∨n=2∨n=3) (h0:(cls n).1≤bt s i) (h1:bt s i < (cls n).2.1) (hc:∀ q,1≤q→q≤n→Y3 s (i+q)) (hl:(cls n).2.2≤qD s i (cls n).1 n) (hs:Yc (qD s i (cls n).1 n)=true):rn s i=qD s i (cls n).1 n∧wd s i=n+1∧j6 s i=false:=by
 have e:=(zfj s i n hn h0 h1).1 ⟨hc,hl,hs⟩;refine ⟨by unfold rn;rw [e],by unfold wd;rw [e], ?_⟩;unfold j6 rn wd;rw [e];exact Zq (by dsimp only;omega)
theorem XL (s:ByteArray) (i n:Nat) (hn:n=1∨n=2∨n=3) (h0:(cls n).1≤bt s i) (h1:bt s i < (cls n).2.1) (hc:¬ ((∀ q,1≤q→q≤n→Y3 s (i+q))∧(cls n).2.2≤qD s i (cls n).1 n∧Yc (qD s i (cls n).1 n)=true)):j6 s i=true:=by
 have e:=(zfj s i n hn h0 h1).2 hc;unfold j6 rn wd;rw [e];rfl
def okU (s:ByteArray):Bool:=Lib.validD s.data.toList
theorem zb0 {s:ByteArray}:okU s=true ↔ ∀ p ∈ zh s,j6 s p=false:=JV s s.size 0
structure RuQ (s:ByteArray) (i f:Nat) (zs:List Int):Prop where
 le:i≤s.size
 fu:s.size≤i+f
 rs:zk s=zs++(zo s f i).map (fun p =>((rn s p:Nat):Int))
 ok:okU s=true ↔ ∀ p ∈ zo s f i,j6 s p=false
 ln:zs.length≤i
theorem RuQ.start (s:ByteArray):RuQ s 0 s.size []:=⟨Zn _,by omega,rfl,zb0,zD⟩
theorem RuQ.next {s:ByteArray} {i f:Nat} {zs:List Int} (h:RuQ s i f zs) (hi:i < s.size) (hb:j6 s i=false):∃ f',RuQ s (i+wd s i) f' (zs++[((rn s i:Nat):Int)]):=by
 have hfu:=h.fu;obtain ⟨g,rfl⟩:∃ g,f=g+1:=⟨f - 1,by omega⟩;have hr:=h.rs;have ho:=h.ok;rw [zW s g i hi] at hr ho;have hw:=Jl s i;have hl:=h.ln;refine ⟨g,Jk s i hi,by omega, ?_, ?_,by rw [List.length_append,List.length_singleton];omega⟩
 ·rw [hr,List.map_cons,List.append_assoc];rfl
 ·refine ho.trans ⟨fun q p hp =>q p (List.mem_cons_of_mem _ hp),fun q p hp =>?_⟩;rcases List.mem_cons.1 hp with rfl | hp
  ·exact hb
  ·exact q p hp
theorem RuQ.bad {s:ByteArray} {i f:Nat} {zs:List Int} (h:RuQ s i f zs) (hi:i < s.size) (hb:j6 s i=true):okU s=false:=by
 have hfu:=h.fu;obtain ⟨g,rfl⟩:∃ g,f=g+1:=⟨f - 1,by omega⟩;have ho:=h.ok;rw [zW s g i hi] at ho;cases hk:okU s with
 | false =>rfl
 | true =>
  have:=ho.1 hk i (List.mem_cons_self ..);rw [hb] at this;cases this
theorem RuQ.fin {s:ByteArray} {i f:Nat} {zs:List Int} (h:RuQ s i f zs) (hi:¬ i < s.size):okU s=true∧zk s=zs:=by
 have hr:=h.rs;have ho:=h.ok;rw [jB s f i hi] at hr ho;exact ⟨ho.2 (fun p hp =>by cases hp),by rw [hr];simp⟩
end
section
open Go.RowKit Go.Shelf
def zG (list:Int) (n:Nat) (f:Nat→Int):Int × Int × Int :=
 match (List.range n).find? (fun j =>f j != 0) with
 | some k =>(f k,list,(k:Int))
 | none =>(0,0,0)
theorem yU {list:Int} {n:Nat} {f:Nat→Int} (k:Nat) (hk:k < n) (h0:∀ i,i < k→f i=0) (h1:f k≠0):zG list n f=(f k,list,(k:Int)):=by
 have:(List.range n).find? (fun j =>f j != 0)=some k:=by
  rw [List.find?_range_eq_some];exact ⟨by simpa using h1,by simpa using hk,fun j hj =>by simp [h0 j hj]⟩
 unfold zG;rw [this]
theorem jW {list:Int} {n:Nat} {f:Nat→Int} (h0:∀ i,i < n→f i=0):zG list n f=(0,0,0):=by
 have:(List.range n).find? (fun j =>f j != 0)=none:=by
  rw [List.find?_eq_none];intro j hj;simp [h0 j (by simpa using hj)]
 unfold zG;rw [this]
theorem YP (list:Int) (n:Nat) (f:Nat→Int):(∃ k,k < n∧(∀ i,i < k→f i=0)∧f k≠0∧zG list n f=(f k,list,(k:Int)))∨((∀ i,i < n→f i=0)∧zG list n f=(0,0,0)):=by
 cases h:(List.range n).find? (fun j =>f j != 0) with
 | none =>
  refine .inr ⟨fun i hi =>?_,by unfold zG;rw [h]⟩;have:=List.find?_eq_none.1 h i (List.mem_range.2 hi);simpa using this
 | some k =>
  rw [List.find?_range_eq_some] at h;obtain ⟨h1,h2,h3⟩:=h;refine .inl ⟨k,by simpa using h2,fun i hi =>by simpa using h3 i hi,by simpa using h1,yU k (by simpa using h2) (fun i hi =>by simpa using h3 i hi) (by simpa using h1)⟩
def OkW (x:Int × Int × Int):Prop:=x.1=0→x=(0,0,0)
theorem qN (list:Int) (n:Nat) (f:Nat→Int):OkW (zG list n f):=by
 rcases YP list n f with ⟨k,h1,h2,h3,e⟩ | ⟨h1,e⟩
 ·rw [e];intro h;exact absurd h h3
 ·rw [e];intro _;rfl
def orW:List (Int × Int × Int)→Int × Int × Int
 | [] =>(0,0,0)
 | x::r =>if x.1=0 then orW r else x
theorem jJ:∀ (l:List (Int × Int × Int)),OkW (orW l)
 | [] =>fun _ =>rfl
 | x::r =>by
  show OkW (if x.1=0 then orW r else x);by_cases h:x.1=0
  ·rw [if_pos h];exact jJ r
  ·rw [if_neg h];intro h';exact absurd h' h
theorem ze {x:Int × Int × Int} {r:List (Int × Int × Int)} (h:x.1=0):orW (x::r)=orW r:=by
 show (if x.1=0 then orW r else x)=orW r;rw [if_pos h]
theorem zj {x:Int × Int × Int} {r:List (Int × Int × Int)} (h:x.1≠0):orW (x::r)=x:=by
 show (if x.1=0 then orW r else x)=x;rw [if_neg h]
theorem Qj {l:List (Int × Int × Int)} (h:(orW l).1=0):∀ x ∈ l,x.1=0:=by
 induction l with
 | nil =>intro x hx;cases hx
 | cons y r ih =>
  by_cases hy:y.1=0
  ·rw [ze hy] at h;intro x hx;rcases List.mem_cons.1 hx with rfl | hx
   ·exact hy
   ·exact ih h x hx
  ·rw [zj hy] at h;exact absurd h hy
theorem yM (l m:List (Int × Int × Int)):orW (l++m)=if (orW l).1=0 then orW m else orW l:=by
 induction l with
 | nil =>simp [orW]
 | cons y r ih =>
  by_cases hy:y.1=0
  ·rw [List.cons_append,ze hy,ze hy,ih]
  ·rw [List.cons_append,zj hy,zj hy,if_neg hy]
def XQ (list:Int) (n m:Nat):Int × Int × Int:=if n≤m then (0,0,0) else (4,list,(m:Int))
def jL (T:TV):Int × Int × Int:=orW [XQ 1 T.sc.length 64,zG 1 T.sc.length (fun i =>if 1024 < (T.sc.getD i (ByteArray.empty,[])).2.length then 4 else 0),XQ 2 T.co.length 1024,XQ 3 T.ma.length 512,XQ 4 T.pr.length 4096,XQ 5 T.fo.length 4096,XQ 6 T.lk.length 4096,XQ 7 T.dr.length 1024,XQ 8 T.al.length 1024]
def jP (c:Nat):Bool:=decide (97≤c∧c≤122)
def XO (s:ByteArray):Bool:=decide (1≤s.size∧s.size≤32) && (jP (bt s 0) && (List.range s.size).all (fun i =>jP (bt s i) || decide (bt s i=45∨(48≤bt s i∧bt s i≤57))))
def spW (list:Int) (l:List (Int × Int)):Int × Int × Int:=zG list l.length (zT l)
def scF (x:ByteArray × List (Int × Int)):Int:=if XO x.1 then (spW 1 x.2).1 else 38
def maF (x:Int × Int):Int:=if zm x.1 then (if x.2 < 1∨254 < x.2 then 30 else 0) else 12
def prF (x:Int × Int × Int):Int:=if zm x.1 && (zm x.2.1 && zm x.2.2) then 0 else 12
def toB (s:ByteArray):Bool:=okU s && decide (1≤(zk s).length∧(zk s).length≤4)
def mpF (x:Int × ByteArray):Int:=if zm x.1 then (if toB x.2 then 0 else 35) else 12
def sc0:ByteArray × List (Int × Int):=(ByteArray.empty,[])
def ma0:Int × Int:=(0,0)
def pr0:Int × Int × Int:=(0,0,0)
def mp0:Int × ByteArray:=(0,ByteArray.empty)
def zg {α : Type} (list:Int) (l:List α) (d : α) (f : α→Int):Int × Int × Int:=zG list l.length (fun i =>f (l.getD i d))
def yT (T:TV):Int × Int × Int:=orW [zg 1 T.sc sc0 scF,spW 2 T.co,zg 3 T.ma ma0 maF,zg 4 T.pr pr0 prF,zg 5 T.fo mp0 mpF,zg 6 T.lk mp0 mpF,spW 7 T.dr,spW 8 T.al]
def twF {α β : Type} [BEq β] (l:List α) (d : α) (key : α→β) (i:Nat):Int:=if (l.take i).any (fun y =>key y == key (l.getD i d)) then 14 else 0
def twP (l:List (Int × Int × Int)) (i:Nat):Int:=if (l.take i).any (fun y =>decide (y.1=(l.getD i pr0).1∨(y.2.1=(l.getD i pr0).2.1∧y.2.2=(l.getD i pr0).2.2))) then 14 else 0
def yQ (T:TV):Int × Int × Int:=orW [zG 1 T.sc.length (twF T.sc sc0 (fun x =>x.1.data.toList)),zG 3 T.ma.length (twF T.ma ma0 (fun x =>x.1)),zG 4 T.pr.length (twP T.pr),zG 5 T.fo.length (twF T.fo mp0 (fun x =>x.1)),zG 6 T.lk.length (twF T.lk mp0 (fun x =>x.1))]
def yJ (T:TV) (r:Int):Bool:=T.ma.any (fun x =>x.1 == r)
def jI (T:TV) (r:Int):Option (Int × Int × Int):=T.pr.find? (fun x =>x.1 == r)
def XU (T:TV) (r:Int):Bool:=T.pr.any (fun x =>x.1 == r)
def Yd (l:List (Int × ByteArray)) (r:Int):Bool:=l.any (fun x =>x.1 == r)
def jF (T:TV) (r:Int):Int:=match T.ma.find? (fun x =>x.1 == r) with
 | some x =>x.2
 | none =>0
def prE (T:TV) (x:Int × Int × Int):Int:=if yJ T x.1 || (yJ T x.2.1 || !yJ T x.2.2) then 32 else 0
def Xf (T:TV):Nat→Int→Nat→Option Nat
 | 0,_,_ =>none
 | f+1,b,n =>match jI T b with
  | none =>some n
  | some q =>Xf T f q.2.1 (n+1)
def prR (T:TV) (x:Int × Int × Int):Int:=match Xf T T.pr.length x.2.1 1 with
 | none =>33
 | some n =>if 4 < n then 34 else 0
def drB (T:TV) (r:Int):Bool:=zi T.dr r
def zO (T:TV) (r:Int):Bool:=zm r && (!yJ T r && (!XU T r && (!drB T r && !Yd T.fo r)))
def qC (T:TV):Int × Int × Int:=orW [zg 3 T.ma ma0 (fun x =>if drB T x.1 then 37 else 0),zg 4 T.pr pr0 (fun x =>if drB T x.1 || (drB T x.2.1 || drB T x.2.2) then 37 else 0),zg 5 T.fo mp0 (fun x =>if drB T x.1 then 37 else 0),zg 6 T.lk mp0 (fun x =>if drB T x.1 then 37 else 0)]
def qP (T:TV):Int × Int × Int:=orW [zg 5 T.fo mp0 (fun x =>if yJ T x.1 || XU T x.1 then 31 else 0),zg 6 T.lk mp0 (fun x =>if yJ T x.1 || XU T x.1 then 31 else 0)]
def JI (T:TV):Int × Int × Int:=orW [zg 5 T.fo mp0 (fun x =>if (zk x.2).any (fun r => !zO T r) then 35 else 0),zg 6 T.lk mp0 (fun x =>if (zk x.2).any (fun r => !zO T r || Yd T.lk r) then 36 else 0)]
def Qw (r:Int):Bool:=decide (r < 32∨r=45∨r=46∨r=65533)
def Zi (r:Int):Bool:=decide (r < 128∨r=65533)
def Za (s:ByteArray):Bool:=(zk s).any Qw
def Q7 (r:Int):Bool:=decide (r=45∨(48≤r∧r≤57)∨(97≤r∧r≤122))
def jM (list:Int) (l:List (Int × Int)) (must:List Int):Int × Int × Int:=if must.all (fun r =>zi l r) then (0,0,0) else (5,list,0)
def comL:List Int := [45,46,48,49,50,51,52,53,54,55,56,57]
def labL:List Int := [45,48,49,50,51,52,53,54,55,56,57]++(List.range 26).map (fun k =>((97+k:Nat):Int))
def drF (x:Int × Int):Int:=if x.1 < 128∨(x.1≤65533∧65533≤x.2) then 5 else 0
def alF (x:Int × Int):Int:=if (List.range 128).any (fun k =>decide (x.1≤(k:Int)∧(k:Int)≤x.2) && !Q7 k) then 5 else 0
def XK (T:TV):Int × Int × Int:=orW [jM 2 T.co comL,zg 3 T.ma ma0 (fun x =>if Zi x.1 then 5 else 0),zg 4 T.pr pr0 (fun x =>if Zi x.1 then 5 else 0),zg 5 T.fo mp0 (fun x =>if (Zi x.1 && decide (x.1 < 65∨90 < x.1)) || Za x.2 then 5 else 0),zg 6 T.lk mp0 (fun x =>if Qw x.1 || Za x.2 then 5 else 0),zg 7 T.dr ma0 drF,zg 8 T.al ma0 alF,jM 8 T.al labL]
def jQ (T:TV):Int × Int × Int:=zg 4 T.pr pr0 (prE T)
def XH (T:TV):Int × Int × Int:=zg 4 T.pr pr0 (prR T)
def XZ (T:TV):Int × Int × Int:=orW [jL T,yT T,yQ T,jQ T,XH T,qC T,qP T,JI T,XK T]
theorem zaa (T:TV):OkW (XZ T):=jJ _
set_option maxRecDepth 100000
set_option maxHeartbeats 8000000
def wrV (x:Int × Int × Int):Value := .agg #[.int .i64 x.1,.int .i64 x.2.1,.int .i64 x.2.2]
theorem zK (b:Bool) (y:Int) (w:World):Calls Tryz.prog 124 #[.bool b,.int .i64 y] w fun e w' =>e=.returned (.int .i64 (if b=true then y else 0))∧w'=w:=by
 go_enter Tryz.func124,Tryz.ntmps124;cases b <;> go_wp2 <;> go_ret <;> exact ⟨rfl,rfl⟩
theorem qV (list:Int) (n m:Nat) (w:World):Calls Tryz.prog 121 #[.int .i64 list,.int .i64 n,.int .i64 m] w fun e w' =>e=.returned (wrV (XQ list n m))∧Below w.heap.size w w':=by
 have hB:Below w.heap.size w (w.alloc (.cells #[.int .i64 0,.int .i64 0,.int .i64 0] 89)):=(Below.refl _ w).alloc zD _;by_cases h:n≤m
 ·have h':(n:Int)≤(m:Int):=by omega
  have e:XQ list n m=(0,0,0):=if_pos h;rw [e];go_enter Tryz.func121,Tryz.ntmps121;go_wp2;exact XS (v:=wrV (0,0,0)) (by simp [results,Tryz.results121,go_sem,wrV]) rfl ⟨rfl,hB⟩
 ·have h':¬ (n:Int)≤(m:Int):=by omega
  have e:XQ list n m=(4,list,(m:Int)):=if_neg h;rw [e];go_enter Tryz.func121,Tryz.ntmps121;go_wp2;exact XS (v:=wrV (4,list,(m:Int))) (by simp [results,Tryz.results121,go_sem,wrV]) rfl ⟨rfl,(Below.refl _ w).alloc zD _⟩
theorem jG {w:World} {R:Nat} {t:TypeId} {v0 v1 v2:Value} (hb:Blk w R #[v0,v1,v2] t) (x y z:Value):Blk (((w.setCell ⟨R,0,none⟩ x).setCell ⟨R,1,none⟩ y).setCell ⟨R,2,none⟩ z) R #[x,y,z] t:=((hb.set 0 x).set 1 y).set 2 z
theorem jA {fn:Func} {p:Tmp} {tmps:Array Value} {w:World} {R:Nat} {cs:Array Value} (h:fn.results=#[.cell p 89]) (hp:tmps.getD p undef=.pointer (some ⟨R,0,none⟩)) (hb:Blk w R cs 89) (hc:cs.size=3):(results fn tmps).run Tryz.prog w=.ok (.agg cs) w :=
 results_cell_row h tmps w R _ cs _ _ hp hb Tryz.underlying89 rfl (by rw [hc];kernel_rfl)
theorem zY {lo R:Nat} {W w:World} (h:Below lo W w) (hl:lo≤R) (hs:lo≤w.heap.size) (x y z:Value):Below lo W (((w.setCell ⟨R,0,none⟩ x).setCell ⟨R,1,none⟩ y).setCell ⟨R,2,none⟩ z):=by
 have g1:=yA w R 0 x;have g2:=yA (w.setCell ⟨R,0,none⟩ x) R 1 y;have g3:=yA ((w.setCell ⟨R,0,none⟩ x).setCell ⟨R,1,none⟩ y) R 2 z;exact ((h.grown g1 hs (fun k hk =>by have:=Zo hk;omega)).grown g2 (Nat.le_trans hs g1.size) (fun k hk =>by have:=Zo hk;omega)).grown g3 (Nat.le_trans hs (Nat.le_trans g1.size g2.size)) (fun k hk =>by have:=Zo hk;omega)
def RwW (w:World) (g o:Nat) (l:List (Int × Int × Int)):Prop := ∀ j x,l[j]?=some x→w.cell? ⟨g,o+j*3,none⟩=some (.int .i64 x.1)∧w.cell? ⟨g,o+j*3+1,none⟩=some (.int .i64 x.2.1)∧w.cell? ⟨g,o+j*3+2,none⟩=some (.int .i64 x.2.2)
structure OrS (W w:World):Prop where
 bl:Below W.heap.size W w
 r:Blk w W.heap.size #[.int .i64 0,.int .i64 0,.int .i64 0] 89
 z:Blk w (W.heap.size+1) #[.int .i64 0,.int .i64 0,.int .i64 0] 89
theorem OrS.alloc {W w:World} (h:OrS W w) (o:Obj):OrS W (w.alloc o):=⟨h.bl.alloc h.bl.size o,h.r.alloc o,h.z.alloc o⟩
theorem qT (l:List (Int × Int × Int)) (hl:l.length≤100) (hk:∀ x ∈ l,OkW x) (g o c:Nat) (w:World) (hg:g < w.heap.size) (hc:RwW w g o l) :
  Calls Tryz.prog 120 #[.slice (some ⟨g,o,none⟩) l.length c] w fun e w' =>e=.returned (wrV (orW l))∧Below w.heap.size w w':=by
 have hB0:Below w.heap.size w ((w.alloc (.cells #[.int .i64 0,.int .i64 0,.int .i64 0] 89)).alloc (.cells #[.int .i64 0,.int .i64 0,.int .i64 0] 89)):=((Below.refl _ w).alloc zD _).alloc (by simp) _;have bR:=(Blk.new w #[.int .i64 0,.int .i64 0,.int .i64 0] 89).alloc (.cells #[.int .i64 0,.int .i64 0,.int .i64 0] 89);have bZ:=Blk.new (w.alloc (.cells #[.int .i64 0,.int .i64 0,.int .i64 0] 89)) #[.int .i64 0,.int .i64 0,.int .i64 0] 89;rw [World.size_alloc] at bZ;have HS0:Hz (OrS w _):=kz ⟨hB0,bR,bZ⟩;have HC:=kz hc;have HK:=kz hk;clear hB0 bR bZ hc hk;go_enter Tryz.func120,Tryz.ntmps120;go_wp2;generalize (w.alloc _).alloc _=w1 at *;go_loopw [5,8] (fun _ s8 wr => ∃ k:Nat,k≤l.length∧s8=.int .i64 k∧Hz (orW l=orW (l.drop k))∧Hz (OrS w wr)) (fun _ s8 _ =>l.length - (intOf s8).toNat)
 case atStart =>exact ⟨0,by omega,rfl,kz (by rw [List.drop_zero]),HS0⟩
 case round =>
  obtain ⟨k,hkl,rfl,HO,HS⟩:=hrel;clear HS0;by_cases hkn:k < l.length
  ·obtain ⟨x,hx⟩:∃ x,l[k]?=some x:=⟨_,qR hkn⟩;have hd:l.drop k=x::l.drop (k+1):=by
    rw [List.drop_eq_getElem_cons hkn]
    congr 1
    exact Zo ((qR hkn).symm.trans hx)
   obtain ⟨e0,e1,e2⟩:=oz HC k x hx;have c0:wr.cell? ⟨g,o+k*3,none⟩=some (.int .i64 x.1):=((oz HS).bl.cell (p:=⟨g,o+k*3,none⟩) hg).trans e0;have c1:wr.cell? ⟨g,o+k*3+1,none⟩=some (.int .i64 x.2.1):=((oz HS).bl.cell (p:=⟨g,o+k*3+1,none⟩) hg).trans e1;have c2:wr.cell? ⟨g,o+k*3+2,none⟩=some (.int .i64 x.2.2):=((oz HS).bl.cell (p:=⟨g,o+k*3+2,none⟩) hg).trans e2;have hk1:(k:Int) < (l.length:Int):=by omega
   have hk2:=Zp k
   clear e0 e1 e2;by_cases hx0:x.1=0
   ·have HO2:Hz (orW l=orW (l.drop (k+1))):=kz (by rw [oz HO,hd,ze hx0]);obtain rfl:=oz HK x (YH hx) hx0;dsimp only at c0 c1 c2;have HS2:=kz ((oz HS).alloc (.cells #[.int .i64 0,.int .i64 0,.int .i64 0] 89));have z0:=(oz HS2).z.cell 0;have z1:=(oz HS2).z.cell 1;have z2:=(oz HS2).z.cell 2;clear hx hd hx0 HO HS;go_wp2_with fail
    exact ⟨⟨k+1,by omega,by go_num,HO2,HS2⟩,by simp [intOf];omega⟩
   ·have HO2:Hz (orW l=x):=kz (by rw [oz HO,hd,zj hx0]);obtain ⟨x0,x1,x2⟩:=x;dsimp only at c0 c1 c2 hx0;have HS2:=kz ((oz HS).alloc (.cells #[.int .i64 x0,.int .i64 x1,.int .i64 x2] 89));have z0:=(oz HS2).z.cell 0;have z1:=(oz HS2).z.cell 1;have z2:=(oz HS2).z.cell 2;have r0:=(oz HS2).r.cell 0;have r1:=(oz HS2).r.cell 1;have r2:=(oz HS2).r.cell 2;have f0:=(oz HS2).r.frozen 0;have f1:=(oz HS2).r.frozen 1;have f2:=(oz HS2).r.frozen 2;have q0:(x0 == 0)=false:=by simpa using hx0
    clear hx hd hx0 HO HS;go_wp2_with fail
    rw [oz HO2];exact XS (v:=wrV (x0,x1,x2)) (jA Tryz.results120 rfl (jG (oz HS2).r _ _ _) rfl) rfl ⟨rfl,zY (oz HS2).bl zD (oz HS2).bl.size _ _ _⟩
  ·have hk1:¬ (k:Int) < (l.length:Int):=by omega
   have HO2:Hz (orW l=(0,0,0)):=kz (by rw [oz HO,List.drop_of_length_le (by omega)];rfl);have z0:=(oz HS).z.cell 0;have z1:=(oz HS).z.cell 1;have z2:=(oz HS).z.cell 2;have r0:=(oz HS).r.cell 0;have r1:=(oz HS).r.cell 1;have r2:=(oz HS).r.cell 2;have f0:=(oz HS).r.frozen 0;have f1:=(oz HS).r.frozen 1;have f2:=(oz HS).r.frozen 2;go_wp2_with fail
   rw [oz HO2];exact XS (v:=wrV (0,0,0)) (jA Tryz.results120 rfl (jG (oz HS).r _ _ _) rfl) rfl ⟨rfl,zY (oz HS).bl zD (oz HS).bl.size _ _ _⟩
def Jy (zs:List (Int × Int)) (x:Int × Int):List (Int × Int) :=
 match zs.getLast? with
 | some y =>if zf x.1≤zf y.2+1 then zs.dropLast++[(y.1,max y.2 x.2)] else zs++[x]
 | none => [x]
theorem Qm (x:Int × Int):Jy [] x=[x]:=rfl
theorem YD (ys:List (Int × Int)) (y x:Int × Int) (h:zf x.1≤zf y.2+1):Jy (ys++[y]) x=ys++[(y.1,max y.2 x.2)]:=by
 unfold Jy;rw [List.getLast?_concat,List.dropLast_concat];simp only [if_pos h]
theorem YE (ys:List (Int × Int)) (y x:Int × Int) (h:¬ zf x.1≤zf y.2+1):Jy (ys++[y]) x=ys++[y]++[x]:=by
 unfold Jy;rw [List.getLast?_concat];simp only [if_neg h]
theorem zaq {ys:List (Int × Int)} {y x:Int × Int} {i:Nat} (h:(ys++[y])[i]?=some x):(i < ys.length∧ys[i]?=some x)∨(i=ys.length∧x=y):=by
 rcases Nat.lt_trichotomy i ys.length with a | a | a
 ·rw [List.getElem?_append_left a] at h;exact .inl ⟨a,h⟩
 ·subst a;simp at h;exact .inr ⟨rfl,h.symm⟩
 ·rw [List.getElem?_append_right (by omega)] at h;have:=(Ze.1 h).1;simp at this;omega
theorem Spread.init {ys:List (Int × Int)} {y:Int × Int} (h:Spread (ys++[y])):Spread ys where
 ends x hx:=h.ends x (by simp [hx])
 apart i j x z hij hx hz:=by
  have hi:=(Ze.1 hx).1;have hj:=(Ze.1 hz).1;exact h.apart i j x z hij (by rw [List.getElem?_append_left hi];exact hx) (by rw [List.getElem?_append_left hj];exact hz)
theorem Spread.last {ys:List (Int × Int)} {y:Int × Int} (h:Spread (ys++[y])) (x:Int × Int) (hx:x ∈ ys):zf x.2+1 < zf y.1:=by
 obtain ⟨i,hi,rfl⟩:=List.mem_iff_getElem.1 hx;exact h.apart i ys.length _ _ hi (by rw [List.getElem?_append_left hi,qR hi]) (by simp)
theorem Spread.snoc {ys:List (Int × Int)} {y:Int × Int} (h:Spread ys) (he:yF y=true) (hy:y.1≤y.2) (ha:∀ x ∈ ys,zf x.2+1 < zf y.1):Spread (ys++[y]) where
 ends x hx:=by
  rcases List.mem_append.1 hx with a | a
  ·exact h.ends x a
  ·simp at a;subst a;exact ⟨he,hy⟩
 apart i j x z hij hx hz:=by
  rcases zaq hz with ⟨a,b⟩ | ⟨a,b⟩
  ·rcases zaq hx with ⟨c,d⟩ | ⟨c,d⟩
   ·exact h.apart i j x z hij d b
   ·omega
  ·rcases zaq hx with ⟨c,d⟩ | ⟨c,d⟩
   ·subst b;exact ha x (YH d)
   ·omega
theorem qE {a b:Int} (ha:a < 55296∨57343 < a) (hb:b < 55296∨57343 < b):zf a≤zf b ↔ a≤b:=by
 have:=Qy hb ha;omega
theorem zat {x:Int × Int} (h1:zm x.1=true) (h2:zm x.2=true):yF x=true:=by unfold yF;rw [h1,h2];rfl
theorem yN {x:Int × Int} (h:yF x=true):zm x.1=true∧zm x.2=true:=by unfold yF at h;rwa [Bool.and_eq_true] at h
theorem X9 {zs:List (Int × Int)} {x:Int × Int} (h:Spread zs) (he:yF x=true) (hx:x.1≤x.2) (hl:∀ y ∈ zs,y.1≤x.1):Spread (Jy zs x):=by
 rcases List.eq_nil_or_concat zs with rfl | ⟨ys,y,rfl⟩
 ·rw [Qm];exact Spread.snoc (ys := []) ⟨fun x h =>by simp at h,fun i j x y _ h =>by simp at h⟩ he hx (fun x h =>by simp at h)
 ·rw [List.concat_eq_append] at *;have hy:=h.ends y (by simp);by_cases t:zf x.1≤zf y.2+1
  ·rw [YD _ _ _ t];refine Spread.snoc h.init ?_ (by show y.1≤max y.2 x.2;have:=hy.2;omega) (fun z hz =>h.last z hz);refine zat (yN hy.1).1 ?_;show zm (max y.2 x.2)=true;rcases Int.le_total y.2 x.2 with a | a
   ·rw [Int.max_eq_right a];exact (yN he).2
   ·rw [Int.max_eq_left a];exact (yN hy.1).2
  ·rw [YE _ _ _ t];refine Spread.snoc h he hx (fun z hz =>?_);rcases List.mem_append.1 hz with a | a
   ·have h1:=h.last z a;have h2:=zr hy.1;have h3:=(qE h2.1.2.2 h2.2.2.2).2 hy.2;omega
   ·simp at a;subst a;omega
theorem jY (xs ys:List (Int × Int)) (r:Int):zi (xs++ys) r=(zi xs r || zi ys r):=by
 unfold zi;rw [List.any_append,Bool.and_or_distrib_right]
theorem zE (zs:List (Int × Int)) (r:Int):zi zs r=true ↔ (∃ x ∈ zs,x.1≤r∧r≤x.2)∧zm r=true:=by
 unfold zi;simp
theorem Qn {zs:List (Int × Int)} {x:Int × Int} (h:Spread zs) (he:yF x=true) (hx:x.1≤x.2) (hl:∀ y ∈ zs,y.1≤x.1) (r:Int):zi (Jy zs x) r=(zi zs r || zi [x] r):=by
 rcases List.eq_nil_or_concat zs with rfl | ⟨ys,y,rfl⟩
 ·rw [Qm];simp [zi]
 ·rw [List.concat_eq_append] at *;have hy:=h.ends y (by simp);by_cases t:zf x.1≤zf y.2+1
  ·rw [YD _ _ _ t,jY,jY,Bool.or_assoc]
   congr 1
   have h1:=zr hy.1;have h2:=zr he;have h3:=hl y (by simp);rw [Bool.eq_iff_iff,Bool.or_eq_true,zE,zE,zE];simp only [List.mem_singleton,exists_eq_left];constructor
   ·rintro ⟨⟨a,b⟩,c⟩;have d:=yL c;by_cases e:r≤y.2
    ·exact .inl ⟨⟨a,e⟩,c⟩
    ·have f:=(Qy h1.2.2.2 d.2.2).2 (by omega);have g:=(qE h2.1.2.2 d.2.2).1 (by omega);exact .inr ⟨⟨g,by omega⟩,c⟩
   ·rintro (⟨⟨a,b⟩,c⟩ | ⟨⟨a,b⟩,c⟩)
    ·exact ⟨⟨a,by omega⟩,c⟩
    ·exact ⟨⟨by omega,by omega⟩,c⟩
  ·rw [YE _ _ _ t,jY]
theorem ZW (zs:List (Int × Int)) (x:Int × Int):(Jy zs x).length≤zs.length+1:=by
 rcases List.eq_nil_or_concat zs with rfl | ⟨ys,y,rfl⟩
 ·rw [Qm];simp
 ·rw [List.concat_eq_append];by_cases t:zf x.1≤zf y.2+1
  ·rw [YD _ _ _ t];simp
  ·rw [YE _ _ _ t];simp
theorem zhS (zs:List (Int × Int)) (x z:Int × Int) (h:z ∈ Jy zs x):(∃ y ∈ zs,z.1=y.1)∨z.1=x.1:=by
 rcases List.eq_nil_or_concat zs with rfl | ⟨ys,y,rfl⟩
 ·rw [Qm] at h;simp at h;subst h;exact .inr rfl
 ·rw [List.concat_eq_append] at *;by_cases t:zf x.1≤zf y.2+1
  ·rw [YD _ _ _ t] at h;rcases List.mem_append.1 h with a | a
   ·exact .inl ⟨z,by simp [a],rfl⟩
   ·simp at a;subst a;exact .inl ⟨y,by simp,rfl⟩
  ·rw [YE _ _ _ t] at h;rcases List.mem_append.1 h with a | a
   ·exact .inl ⟨z,a,rfl⟩
   ·simp at a;subst a;exact .inr rfl
def jX (l:List (Int × Int)):List (Int × Int):=l.foldl Jy []
theorem Q4 (l:List (Int × Int)) (x:Int × Int):jX (l++[x])=Jy (jX l) x:=by simp [jX]
def yO (l:List (Int × Int)):Prop := ∀ x ∈ l,yF x=true∧x.1≤x.2
def RisingL (l:List (Int × Int)):Prop := ∀ (i j:Nat) (x y:Int × Int),i < j→l[i]?=some x→l[j]?=some y→x.1≤y.1
theorem RisingL.init {ys:List (Int × Int)} {y:Int × Int} (h:RisingL (ys++[y])):RisingL ys:=fun i j x z hij hx hz =>by
 have hi:=(Ze.1 hx).1;have hj:=(Ze.1 hz).1;exact h i j x z hij (by rw [List.getElem?_append_left hi];exact hx) (by rw [List.getElem?_append_left hj];exact hz)
theorem KU (n:Nat):∀ (l:List (Int × Int)),l.length=n→yO l→RisingL l→Spread (jX l)∧(∀ r,zi (jX l) r=zi l r)∧(jX l).length≤l.length∧(∀ z ∈ jX l, ∃ y ∈ l,z.1=y.1):=by
 induction n with
 | zero =>
  intro l hl _ _;have:=List.eq_nil_of_length_eq_zero hl;subst this;exact ⟨⟨fun x h =>by simp [jX] at h,fun i j x y _ h =>by simp [jX] at h⟩,fun r =>rfl,by simp [jX],fun z h =>by simp [jX] at h⟩
 | succ n ih =>
  intro l hl hR hO;rcases List.eq_nil_or_concat l with rfl | ⟨ys,y,rfl⟩
  ·simp at hl
  ·rw [List.concat_eq_append] at *;simp at hl;obtain ⟨h1,h2,h3,h4⟩:=ih ys hl (fun x hx =>hR x (by simp [hx])) hO.init;have hy:=hR y (by simp);have hle:∀ z ∈ jX ys,z.1≤y.1:=fun z hz =>by
    obtain ⟨u,hu,e⟩:=h4 z hz;obtain ⟨i,hi,rfl⟩:=List.mem_iff_getElem.1 hu;rw [e];exact hO i ys.length _ _ hi (by rw [List.getElem?_append_left hi,qR hi]) (by simp)
   rw [Q4];refine ⟨X9 h1 hy.1 hy.2 hle,fun r =>?_, ?_,fun z hz =>?_⟩
   ·rw [Qn h1 hy.1 hy.2 hle,h2,jY]
   ·have:=ZW (jX ys) y;simp;omega
   ·rcases zhS _ _ _ hz with ⟨u,hu,e⟩ | e
    ·obtain ⟨v,hv,e'⟩:=h4 u hu;exact ⟨v,by simp [hv],e.trans e'⟩
    ·exact ⟨y,by simp,e⟩
theorem Spread.tail {x:Int × Int} {zs:List (Int × Int)} (h:Spread (x::zs)):Spread zs :=
 ⟨fun y hy =>h.ends y (List.mem_cons_of_mem _ hy),fun i j y z hij hy hz =>h.apart (i+1) (j+1) y z (by omega) (by simpa using hy) (by simpa using hz)⟩
theorem Spread.head {x y:Int × Int} {zs:List (Int × Int)} (h:Spread (x::zs)) (hy:y ∈ zs):zf x.2+1 < zf y.1:=by
 obtain ⟨i,hi,rfl⟩:=List.mem_iff_getElem.1 hy;exact h.apart 0 (i+1) _ _ (by omega) (by simp) (by simp [hi])
theorem Spread.head_lt {x y:Int × Int} {zs:List (Int × Int)} (h:Spread (x::zs)) (hy:y ∈ zs):x.2 < y.1:=by
 have a:=zr (h.ends x (by simp)).1;have b:=zr (h.ends y (by simp [hy])).1;have:=h.head hy;exact (Qy a.2.2.2 b.1.2.2).1 (by omega)
theorem zh2 {x:Int × Int} {zs:List (Int × Int)} (h:Spread (x::zs)):zi (x::zs) x.1=true∧zi (x::zs) x.2=true:=by
 have a:=h.ends x (by simp);have b:=yN a.1;exact ⟨(zE _ _).2 ⟨⟨x,by simp,by omega,a.2⟩,b.1⟩,(zE _ _).2 ⟨⟨x,by simp,a.2,by omega⟩,b.2⟩⟩
theorem zfZ {xs ys:List (Int × Int)} (h:xs.Perm ys) (r:Int):zi xs r=zi ys r:=by
 rw [Bool.eq_iff_iff,zE,zE];constructor
 ·rintro ⟨⟨x,a,b⟩,c⟩;exact ⟨⟨x,h.mem_iff.1 a,b⟩,c⟩
 ·rintro ⟨⟨x,a,b⟩,c⟩;exact ⟨⟨x,h.mem_iff.2 a,b⟩,c⟩
theorem XC {list:Int} {n m:Nat} (h:(XQ list n m).1=0):n≤m:=by
 unfold XQ at h;by_cases e:n≤m
 ·exact e
 ·rw [if_neg e] at h;exact absurd (show (4:Int)=0 from h) (by decide)
theorem Xn {list:Int} {n:Nat} {f:Nat→Int} (h:(zG list n f).1=0):∀ i,i < n→f i=0:=by
 rcases YP list n f with ⟨k,h1,h2,h3,e⟩ | ⟨h1,_⟩
 ·rw [e] at h;exact absurd h h3
 ·exact h1
theorem qM {α : Type} {l:List α} {d x : α} {i:Nat} (h:l[i]?=some x):l.getD i d=x:=by simp [List.getD,h]
theorem zeR {α : Type} {l:List α} {x : α} (h:x ∈ l):∃ i,i < l.length∧l[i]?=some x:=by
 obtain ⟨i,hi,e⟩:=List.getElem_of_mem h;exact ⟨i,hi,by rw [qR hi,e]⟩
theorem YF {α : Type} {list:Int} {l:List α} {d : α} {f : α→Int} (h:(zg list l d f).1=0):∀ x ∈ l,f x=0:=fun x hx =>by
 obtain ⟨i,hi,e⟩:=zeR hx;have:=Xn h i hi
 rwa [qM e] at this
theorem ziG {α β : Type} [BEq β] [LawfulBEq β] {l:List α} {d : α} {key : α→β} (h:∀ i,i < l.length→twF l d key i=0):l.Pairwise (fun x y =>key x≠key y):=by
 rw [List.pairwise_iff_getElem];intro i j hi hj hij e;have:=h j hj;unfold twF at this;rw [qM (qR hj),if_pos (List.any_eq_true.2 ⟨l[i],List.mem_take_iff_getElem.2 ⟨i,by omega,rfl⟩,by rw [e];exact beq_self_eq_true _⟩)] at this;exact absurd this (by decide)
theorem zeM {α β : Type} {l:List α} {key : α→β} (h:l.Pairwise (fun x y =>key x≠key y)) {x y : α} (hx:x ∈ l) (hy:y ∈ l) (e:key x=key y):x=y:=by
 obtain ⟨i,hi,ei⟩:=List.getElem_of_mem hx;obtain ⟨j,hj,ej⟩:=List.getElem_of_mem hy;rw [List.pairwise_iff_getElem] at h;rcases Nat.lt_trichotomy i j with c | c | c
 ·exact absurd (by rw [ei,ej];exact e) (h i j hi hj c)
 ·subst c;rw [← ei, ← ej]
 ·exact absurd (by rw [ei,ej];exact e.symm) (h j i hj hi c)
theorem zas {α : Type} {l:List α} {p : α→Bool} {x : α} (hx:x ∈ l) (hp:p x=true) (hu:∀ y ∈ l,p y=true→y=x):l.find? p=some x:=by
 cases h:l.find? p with
 | none =>exact absurd hp (by simpa using List.find?_eq_none.1 h x hx)
 | some y =>rw [hu y (List.mem_of_find?_eq_some h) (List.find?_some h)]
structure zx (T:TV):Prop where
 l0:T.sc.length≤64
 s0:∀ x ∈ T.sc,x.2.length≤1024
 l1:T.co.length≤1024
 l2:T.ma.length≤512
 l3:T.pr.length≤4096
 l4:T.fo.length≤4096
 l5:T.lk.length≤4096
 l6:T.dr.length≤1024
 l7:T.al.length≤1024
 f0:∀ x ∈ T.sc,XO x.1=true∧yO x.2
 f1:yO T.co
 f2:∀ x ∈ T.ma,zm x.1=true∧1≤x.2∧x.2≤254
 f3:∀ x ∈ T.pr,zm x.1=true∧zm x.2.1=true∧zm x.2.2=true
 f4:∀ x ∈ T.fo,zm x.1=true∧toB x.2=true
 f5:∀ x ∈ T.lk,zm x.1=true∧toB x.2=true
 f6:yO T.dr
 f7:yO T.al
 t2:T.ma.Pairwise (fun x y =>x.1≠y.1)
 t3:T.pr.Pairwise (fun x y =>x.1≠y.1)
 t3b:T.pr.Pairwise (fun x y =>x.2≠y.2)
 t4:T.fo.Pairwise (fun x y =>x.1≠y.1)
 t5:T.lk.Pairwise (fun x y =>x.1≠y.1)
theorem Qh {list:Int} {l:List (Int × Int)} (h:(spW list l).1=0):yO l:=fun x hx =>by
 obtain ⟨i,hi,e⟩:=zeR hx;have h0:=Xn h i hi;unfold zT at h0;rw [qM e] at h0;by_cases hw:yV x=0
 ·unfold yV at hw;by_cases he:yF x=true
  ·refine ⟨he, ?_⟩;rcases Int.lt_or_le x.2 x.1 with c | c
   ·simp [he,c] at hw
   ·exact c
  ·simp [he] at hw
 ·rw [if_pos hw] at h0;exact absurd h0 hw
theorem Jn {s:ByteArray} (h:toB s=true):okU s=true∧1≤(zk s).length∧(zk s).length≤4:=by
 unfold toB at h;rw [Bool.and_eq_true,decide_eq_true_eq] at h;exact h
theorem zdg {x:Int × ByteArray} (h:mpF x=0):zm x.1=true∧toB x.2=true:=by
 unfold mpF at h;by_cases h1:zm x.1=true
 ·rw [if_pos h1] at h;by_cases h2:toB x.2=true
  ·exact ⟨h1,h2⟩
  ·rw [if_neg h2] at h;exact absurd h (by decide)
 ·rw [if_neg h1] at h;exact absurd h (by decide)
theorem za7 {T:TV} (h:(orW [jL T,yT T,yQ T]).1=0):zx T:=by
 have h:=Qj h;simp only [List.forall_mem_cons] at h;have hl:=Qj h.1;have hf:=Qj h.2.1;have ht:=Qj h.2.2.1;simp only [List.forall_mem_cons] at hl hf ht;obtain ⟨a0,a0s,a1,a2,a3,a4,a5,a6,a7,_⟩:=hl;obtain ⟨f0,f1,f2,f3,f4,f5,f6,f7,_⟩:=hf;obtain ⟨q0,q2,q3,q4,q5,_⟩:=ht;have hp:=Xn q3;refine ⟨XC a0,fun x hx =>?_,XC a1,XC a2,XC a3,XC a4,XC a5,XC a6,XC a7,fun x hx =>?_,Qh f1,fun x hx =>?_,fun x hx =>?_,fun x hx =>zdg (YF f4 x hx),fun x hx =>zdg (YF f5 x hx),Qh f6,Qh f7,ziG (Xn q2), ?_, ?_,ziG (Xn q4),ziG (Xn q5)⟩
 ·obtain ⟨i,hi,e⟩:=zeR hx;have:=Xn a0s i hi;rw [show T.sc.getD i (ByteArray.empty,[])=x from qM e] at this;rcases Nat.lt_or_ge 1024 x.2.length with c | c
  ·rw [if_pos c] at this;exact absurd this (by decide)
  ·exact c
 ·have:=YF f0 x hx;unfold scF at this;by_cases hn:XO x.1=true
  ·rw [if_pos hn] at this;exact ⟨hn,Qh this⟩
  ·rw [if_neg hn] at this;exact absurd this (by decide)
 ·have:=YF f2 x hx;unfold maF at this;by_cases hn:zm x.1=true
  ·rw [if_pos hn] at this;by_cases hc:x.2 < 1∨254 < x.2
   ·rw [if_pos hc] at this;exact absurd this (by decide)
   ·exact ⟨hn,by omega,by omega⟩
  ·rw [if_neg hn] at this;exact absurd this (by decide)
 ·have:=YF f3 x hx;unfold prF at this;by_cases hn:(zm x.1 && (zm x.2.1 && zm x.2.2))=true
  ·rw [Bool.and_eq_true,Bool.and_eq_true] at hn;exact hn
  ·rw [if_neg hn] at this;exact absurd this (by decide)
 all_goals
  rw [List.pairwise_iff_getElem];intro i j hi hj hij e;have:=hp j hj;unfold twP at this;rw [qM (qR hj),if_pos (List.any_eq_true.2 ⟨T.pr[i],List.mem_take_iff_getElem.2 ⟨i,by omega,rfl⟩,by simp [e]⟩)] at this;exact absurd this (by decide)
theorem zdq {T:TV} (h:zx T) {x:Int × Int} (hx:x ∈ T.ma):jF T x.1=x.2:=by
 unfold jF;rw [zas hx (p:=fun y =>y.1 == x.1) (by simp) (fun y hy e =>zeM h.t2 hy hx (by simpa using e))]
theorem K9 {T:TV} {r:Int} (h:∀ x ∈ T.ma,x.1≠r):jF T r=0:=by
 unfold jF;rw [List.find?_eq_none.2 (fun x hx =>by simpa using h x hx)]
theorem ZK {T:TV} (h:zx T) (r:Int):(jF T r == 0) = !yJ T r:=by
 unfold yJ;by_cases e:∃ x ∈ T.ma,x.1=r
 ·obtain ⟨x,hx,rfl⟩:=e;rw [zdq h hx,List.any_eq_true.2 ⟨x,hx,by simp⟩];have:=(h.f2 x hx).2;simp;omega
 ·rw [K9 (fun x hx q =>e ⟨x,hx,q⟩),List.any_eq_false.2 (fun x hx q =>e ⟨x,hx,by simpa using q⟩)];rfl
theorem ziM {T:TV} (h:zx T) {x:Int × Int × Int} (hx:x ∈ T.pr):jI T x.1=some x:=by
 unfold jI;exact zas hx (by simp) (fun y hy e =>zeM h.t3 hy hx (by simpa using e))
theorem zfp {T:TV} {r:Int} (h:∀ x ∈ T.pr,x.1≠r):jI T r=none:=List.find?_eq_none.2 (fun x hx =>by simpa using h x hx)
theorem zfo {T:TV} {r:Int}:(jI T r).isSome=XU T r:=by
 unfold jI XU;rw [Bool.eq_iff_iff,List.find?_isSome,List.any_eq_true]
def toP (l:List (Int × ByteArray)) (r:Int):Option (Int × ByteArray):=l.find? (fun x =>x.1 == r)
theorem ziD {l:List (Int × ByteArray)} (h:l.Pairwise (fun x y =>x.1≠y.1)) {x:Int × ByteArray} (hx:x ∈ l):toP l x.1=some x:=by
 unfold toP;exact zas hx (by simp) (fun y hy e =>zeM h hy hx (by simpa using e))
theorem zeY {l:List (Int × ByteArray)} {r:Int} (h:∀ x ∈ l,x.1≠r):toP l r=none:=List.find?_eq_none.2 (fun x hx =>by simpa using h x hx)
theorem zeX {l:List (Int × ByteArray)} {r:Int}:(toP l r).isSome=Yd l r:=by
 unfold toP Yd;rw [Bool.eq_iff_iff,List.find?_isSome,List.any_eq_true]
def J9 (T:TV) (r:Int):List Nat:=(List.range T.sc.length).filter (fun j =>zi (T.sc.getD j sc0).2 r)
end
end Go.Proofs.YthchopdfmchpkaaGreat
