/- Texts of this claim, one behind the other. -/
import Derived.Test.YthchopdfmchpkaaGreatM16
import Derived.Lib.AppendZeros
namespace Go.Proofs.YthchopdfmchpkaaGreat
open Go.RowKit Go.Shelf
set_option linter.unusedVariables false
theorem zaj {x:Int × Int} (he:yF x=true) (hx:x.1≤x.2):1≤zS x:=by
 have h:=zr he;have:=(qE h.1.2.2 h.2.2.2).2 hx;unfold zS;omega
def jT:List (Int × Int)→Int→Int
 | [],_ =>0
 | x::zs,n =>if n < zS x then zU (zf x.1+n) else jT zs (n - zS x)
theorem Xk (x:Int × Int) (zs:List (Int × Int)):total (x::zs)=zS x+total zs:=rfl
theorem YJ {zs:List (Int × Int)} (h:yO zs) (i:Nat):0≤total (zs.take i):=(X7 (fun x hx =>h x (List.mem_of_mem_take hx))).1
theorem zeP:∀ (zs:List (Int × Int)) (i:Nat) (x:Int × Int) (n:Int),yO zs→zs[i]?=some x→total (zs.take i)≤n→n < total (zs.take i)+zS x→jT zs n=zU (zf x.1+(n - total (zs.take i)))
 | [],i,x,n,_,hx,_,_ =>by simp at hx
 | y::zs,0,x,n,hR,hx,h0,h1 =>by
  simp at hx;subst hx;simp only [List.take_zero,total] at h0 h1 ⊢;show (if n < zS y then _ else _)=_;rw [if_pos (by omega)]
  congr 2
  omega
 | y::zs,i+1,x,n,hR,hx,h0,h1 =>by
  simp only [List.take_succ_cons,Xk] at h0 h1 ⊢;have hR':yO zs:=fun z hz =>hR z (List.mem_cons_of_mem _ hz)
  have hnn:=YJ hR' i;show (if n < zS y then _ else jT zs (n - zS y))=_;rw [if_neg (by omega),zeP zs i x (n - zS y) hR' (by simpa using hx) (by omega) (by omega)]
  congr 2
  omega
def zC:List (Int × Int)→Int→Int
 | [],_ =>0
 | x::zs,r =>(if x.1 < r then min (zf r) (zf x.2+1) - zf x.1 else 0)+zC zs r
theorem JP:∀ (zs:List (Int × Int)) (r:Int),(∀ x ∈ zs,r≤x.1)→zC zs r=0
 | [],_,_ =>rfl
 | x::zs,r,h =>by
  have:=h x List.mem_cons_self;show (if x.1 < r then _ else 0)+zC zs r=0;rw [if_neg (by omega),JP zs r (fun y hy =>h y (List.mem_cons_of_mem _ hy))];rfl
theorem zkw {a b:Int} (ha:a < 55296∨57343 < a) (h:a < b):zf a+1≤zf b∨(55295=a∧zf b=55296):=by
 unfold zf;split <;> split <;> (try split) <;> (try split) <;> omega
theorem Xp {a b:Int} (ha:a < 55296∨57343 < a) (h:a < b):zf a+1≤zf b:=by
 unfold zf;split <;> split <;> (try split) <;> (try split) <;> omega
theorem QS:∀ (zs:List (Int × Int)) (r:Int) (k:Nat),Spread zs→Cut (fun x =>x.1) zs r k→zaT zs r k=zC zs r
 | zs,r,0,hS,hc =>by
  rw [JP zs r (fun x hx =>by
   obtain ⟨i,hi,rfl⟩:=List.mem_iff_getElem.1 hx;exact hc.2.2 i _ (Zn _) (qR hi))]
  rfl
 | [],r,k+1,hS,hc =>by have:=hc.1;simp at this
 | x::zs,r,k+1,hS,hc =>by
  have hx:x.1 < r:=hc.2.1 0 x (by omega) rfl;show _=(if x.1 < r then _ else 0)+zC zs r;rw [if_pos hx];have hc':Cut (fun x =>x.1) zs r k:=⟨by have:=hc.1;simp at this;omega,fun j y hj hy =>hc.2.1 (j+1) y (by omega) (by simpa using hy),fun j y hj hy =>hc.2.2 (j+1) y (by omega) (by simpa using hy)⟩;have ih:=QS zs r k hS.tail hc';cases k with
  | zero =>
   rw [← ih];show total []+min (zf r) (zf x.2+1) - zf x.1=min (zf r) (zf x.2+1) - zf x.1+0;simp [total]
  | succ m =>
   rw [← ih];have hm:m < zs.length:=by have:=hc'.1;omega
   obtain ⟨y,hy⟩:∃ y,zs[m]?=some y:=⟨_,qR hm⟩;have hyr:y.1 < r:=hc'.2.1 m y (by omega) hy;have hlt:=hS.head_lt (YH hy);have he:=zr (hS.ends x (by simp)).1;have h1:=Xp he.2.2.2 (show x.2 < r by omega);show total ((x::zs).take (m+1))+min (zf r) (zf ((x::zs).getD (m+1) (0,0)).2+1) - zf ((x::zs).getD (m+1) (0,0)).1=_+(total (zs.take m)+min (zf r) (zf (zs.getD m (0,0)).2+1) - zf (zs.getD m (0,0)).1);rw [List.take_succ_cons,Xk,List.getD_cons_succ,Int.min_eq_right h1];unfold zS;omega
theorem QZ {n:Int} (h:0≤n):zf (zU n)=n:=by
 unfold zU zf;split <;> split <;> (try split) <;> omega
theorem YS {n:Int} (h:0≤n) (h1:n≤1112063):zm (zU n)=true:=by
 unfold zU zm;apply JS;split <;> omega
theorem zfT {zs:List (Int × Int)} (hS:Spread zs) {i:Nat} {x:Int × Int} {n:Int} (hx:zs[i]?=some x) (h0:total (zs.take i)≤n) (h1:n < total (zs.take i)+zS x) :
  zm (jT zs n)=true∧x.1≤jT zs n∧jT zs n≤x.2∧zf (jT zs n)=zf x.1+(n - total (zs.take i)):=by
 have hm:=YH hx;have he:=zr (hS.ends x hm).1;have a:=zH he.1.1 he.1.2.1;have b:=zH he.2.1 he.2.2.1;unfold zS at h1;rw [zeP zs i x n hS.ends hx h0 (by unfold zS;omega)];have r:=QZ (n:=zf x.1+(n - total (zs.take i))) (by omega);have q:=YS (n:=zf x.1+(n - total (zs.take i))) (by omega) (by omega);have qq:=yL q;refine ⟨q,(qE he.1.2.2 qq.2.2).1 (by omega),(qE qq.2.2 he.2.2.2).1 (by omega),r⟩
theorem JO:∀ (zs:List (Int × Int)) (i:Nat) (x:Int × Int) (r:Int),Spread zs→zs[i]?=some x→x.1 < r→(∀ y,zs[i+1]?=some y→r≤y.1)→zC zs r=total (zs.take i)+(min (zf r) (zf x.2+1) - zf x.1):=by
 intro zs i x r hS hx h1 h2;have hi:=(Ze.1 hx).1;have hc:Cut (fun x =>x.1) zs r (i+1):=⟨by omega,fun j y hj hy =>by
   show y.1 < r;rcases Nat.lt_or_eq_of_le (show j≤i by omega) with a | a
   ·have:=hS.los j i y x a hy hx;omega
   ·subst a;rw [hx] at hy;cases hy;exact h1,fun j y hj hy =>by
   show r≤y.1;rcases Nat.lt_or_eq_of_le hj with a | a
   ·have hj':=(Ze.1 hy).1;obtain ⟨z,hz⟩:∃ z,zs[i+1]?=some z:=⟨_,qR (by omega)⟩;have:=hS.los (i+1) j z y a hz hy;have:=h2 z hz;omega
   ·rw [← a] at hy;exact h2 y hy⟩
 rw [← QS zs r (i+1) hS hc];have hg:zs.getD i (0,0)=x:=by simp [List.getD,hx]
 show total (zs.take i)+min (zf r) (zf (zs.getD i (0,0)).2+1) - zf (zs.getD i (0,0)).1=_;rw [hg];omega
theorem zbd:∀ (zs:List (Int × Int)) (n:Int),yO zs→0≤n→n < total zs→∃ (i:Nat) (x:Int × Int),zs[i]?=some x∧total (zs.take i)≤n∧n < total (zs.take i)+zS x
 | [],n,_,h0,h1 =>by simp [total] at h1;omega
 | y::zs,n,hR,h0,h1 =>by
  by_cases c:n < zS y
  ·exact ⟨0,y,rfl,by simpa [total] using h0,by simpa [total] using c⟩
  ·rw [Xk] at h1;obtain ⟨i,x,hx,a,b⟩:=zbd zs (n - zS y) (fun z hz =>hR z (List.mem_cons_of_mem _ hz)) (by omega) (by omega);exact ⟨i+1,x,by simpa using hx,by rw [List.take_succ_cons,Xk];omega,by rw [List.take_succ_cons,Xk];omega⟩
theorem ze9 {zs:List (Int × Int)} (hS:Spread zs) {n:Int} (h0:0≤n) (h1:n < total zs):zi zs (jT zs n)=true∧zC zs (jT zs n)=n∧zC zs (jT zs n+1)=n+1∧0≤jT zs n∧jT zs n≤1114111:=by
 obtain ⟨i,x,hx,a,b⟩:=zbd zs n hS.ends h0 h1;obtain ⟨hr,h2,h3,h4⟩:=zfT hS hx a b;have hm:=YH hx;have he:=zr (hS.ends x hm).1;have hrr:=yL hr;have hle2:=(qE hrr.2.2 he.2.2.2).2 h3;have hnext:∀ y,zs[i+1]?=some y→jT zs n+1≤y.1:=fun y hy =>by
  have:=hS.lt i (i+1) x y (by omega) hx hy;omega
 have hb1:=JO zs i x (jT zs n+1) hS hx (by omega) hnext;have hr1:=Xp hrr.2.2 (show jT zs n < jT zs n+1 by omega);have hr2:zf (jT zs n+1)=zf (jT zs n)+1:=by
  have:zf (jT zs n+1)≤zf (jT zs n)+1:=by unfold zf;split <;> split <;> (try split) <;> (try split) <;> omega
  omega
 refine ⟨(zE _ _).2 ⟨⟨x,hm,h2,h3⟩,hr⟩, ?_, ?_,hrr.1,hrr.2.1⟩
 ·by_cases c:x.1 < jT zs n
  ·rw [JO zs i x (jT zs n) hS hx c (fun y hy =>by have:=hnext y hy;omega)];omega
  ·have e:jT zs n=x.1:=by omega
   have hz:n=total (zs.take i):=by rw [e] at h4;omega
   cases i with
   | zero =>
    rw [e,JP zs x.1 (fun y hy =>by
     obtain ⟨j,hj,rfl⟩:=List.mem_iff_getElem.1 hy;cases j with
     | zero =>rw [qR hj] at hx;cases hx;omega
     | succ j =>have:=hS.los 0 (j+1) x _ (by omega) hx (qR hj);omega)]
    rw [hz];rfl
   | succ m =>
    have hml:m < zs.length:=by have:=(Ze.1 hx).1;omega
    obtain ⟨y,hy⟩:∃ y,zs[m]?=some y:=⟨_,qR hml⟩;have hlt:=hS.lt m (m+1) y x (by omega) hy hx;have hey:=hS.ends y (YH hy);have hye:=zr hey.1;rw [e,JO zs m y x.1 hS hy (by omega) (fun z hz' =>by rw [hx] at hz';cases hz';omega)];have hra:=Xp hye.2.2.2 hlt;rw [Int.min_eq_right hra,hz];rw [Yt hy,ZC];unfold zS;omega
 ·rw [hb1,hr2];omega
theorem KC {l:List (Int × Int)} {k:Nat} {x y:Int × Int} (hx:l[k]?=some x) (hy:y ∈ l.take (k+1)):y ∈ l.take k∨y=x:=by
 rw [List.take_add_one,hx] at hy;simpa using hy
def zb3 (zs:List (Int × Int)) (f t:Int):List (Int × Int):=if f < t then Jy zs (zU f,zU (t - 1)) else zs
theorem KS {f t:Int} (h0:0≤f) (h1:t≤1112064) (h:f < t):yF (zU f,zU (t - 1))=true∧zU f≤zU (t - 1):=by
 refine ⟨zat (YS h0 (by omega)) (YS (by omega) (by omega)), ?_⟩;unfold zU;split <;> split <;> omega
theorem Jd {f r:Int} (h0:0≤f) (h1:f≤1112063) (hr:zm r=true):(zU f≤r ↔ f≤zf r)∧(r≤zU f ↔ zf r≤f):=by
 have q:=yL (YS h0 h1);have p:=yL hr;have e:=QZ h0;have a:=qE q.2.2 p.2.2;have b:=qE p.2.2 q.2.2;rw [e] at a b;exact ⟨a.symm,b.symm⟩
theorem KT {zs:List (Int × Int)} {f t:Int} (hS:Spread zs) (hlow:∀ y ∈ zs,zf y.2 < f) (h0:0≤f) (h1:t≤1112064) (hft:f≤t) :
  Spread (zb3 zs f t)∧(∀ r,zm r=true→(zi (zb3 zs f t) r=true ↔ zi zs r=true∨(f≤zf r∧zf r < t)))∧(∀ y ∈ zb3 zs f t,zf y.2 < t)∧(zb3 zs f t).length≤zs.length+1:=by
 unfold zb3;by_cases h:f < t
 ·rw [if_pos h];have hx:=KS h0 h1 h;have hle:∀ y ∈ zs,y.1≤zU f:=fun y hy =>by
   have a:=hS.ends y hy;have b:=zr a.1;have c:=(Jd h0 (by omega) (yN a.1).2).2.2 (by have:=hlow y hy;omega);have:=a.2;omega
  refine ⟨X9 hS hx.1 hx.2 hle,fun r hr =>?_,fun y hy =>?_,ZW _ _⟩
  ·rw [Qn hS hx.1 hx.2 hle,Bool.or_eq_true,zE [_]];simp only [List.mem_singleton,exists_eq_left];rw [(Jd h0 (by omega) hr).1,(Jd (f:=t - 1) (by omega) (by omega) hr).2];constructor
   ·rintro (a | ⟨⟨a,b⟩,_⟩)
    ·exact .inl a
    ·exact .inr ⟨a,by omega⟩
   ·rintro (a | ⟨a,b⟩)
    ·exact .inl a
    ·exact .inr ⟨⟨a,by omega⟩,hr⟩
  ·have hm:zi (Jy zs (zU f,zU (t - 1))) y.2=true:=by
    have a:=(X9 hS hx.1 hx.2 hle).ends y hy;exact (zE _ _).2 ⟨⟨y,hy,a.2,by omega⟩,(yN a.1).2⟩
   have hyr:zm y.2=true:=(yN ((X9 hS hx.1 hx.2 hle).ends y hy).1).2;rw [Qn hS hx.1 hx.2 hle,Bool.or_eq_true,zE,zE [_]] at hm;simp only [List.mem_singleton,exists_eq_left] at hm;rcases hm with ⟨⟨z,hz,p,q⟩,_⟩ | ⟨⟨p,q⟩,_⟩
   ·have a:=hlow z hz;have b:=zr (hS.ends z hz).1;have c:=(qE (yL hyr).2.2 b.2.2.2).2 q;omega
   ·have:=(Jd (f:=t - 1) (by omega) (by omega) hyr).2.1 q;omega
 ·rw [if_neg h];have e:f=t:=by omega
  subst e;refine ⟨hS,fun r hr =>?_,hlow,by omega⟩;constructor
  ·exact .inl
  ·rintro (a | ⟨a,b⟩)
   ·exact a
   ·omega
structure zjJ (zs:List (Int × Int)) (k:Nat) (out:List (Int × Int)) (f:Int):Prop where
 spread:Spread out
 rng:0≤f∧f≤1112064
 mem:∀ r,zm r=true→(zi out r=true ↔ zf r < f∧zi (zs.take k) r=false)
 low:∀ y ∈ out,zf y.2 < f
 len:out.length≤k
 past:∀ y ∈ zs.take k,zf y.2+1≤f
 next:∀ x,zs[k]?=some x→f≤zf x.1
theorem zd4 {zs:List (Int × Int)} (hS:Spread zs):zjJ zs 0 [] 0 where
 spread:=⟨fun x h =>by simp at h,fun i j x y _ h =>by simp at h⟩
 rng:=by omega
 mem r hr:=by
  have:=zH (yL hr).1 (yL hr).2.1;simp [zi];omega
 low y h:=by simp at h
 len:=by simp
 past y h:=by simp at h
 next x hx:=by
  have e:=zr (hS.ends x (YH hx)).1;exact (zH e.1.1 e.1.2.1).1
theorem zfU {zs:List (Int × Int)} (hS:Spread zs) {k:Nat} {out:List (Int × Int)} {f:Int} {x:Int × Int} (h:zjJ zs k out f) (hx:zs[k]?=some x):zjJ zs (k+1) (zb3 out f (zf x.1)) (zf x.2+1):=by
 have hm:=YH hx;have hex:=hS.ends x hm;have he:=zr hex.1;have r1:=zH he.1.1 he.1.2.1;have r2:=zH he.2.1 he.2.2.1;have r12:=(qE he.1.2.2 he.2.2.2).2 hex.2;have hf:=h.next x hx;obtain ⟨a,b,c,d⟩:=KT h.spread h.low h.rng.1 (by omega) hf;refine ⟨a,by omega,fun r hr =>?_,fun y hy =>by have:=c y hy;omega,by have:=h.len;omega,fun y hy =>?_,fun y hy =>?_⟩
 ·have hrr:=yL hr;rw [b r hr,h.mem r hr,Yt hx,jY];have q1:=qE he.1.2.2 hrr.2.2;have q2:=qE hrr.2.2 he.2.2.2;have hx1:zi [x] r=true ↔ zf x.1≤zf r∧zf r≤zf x.2:=by
   rw [zE];simp only [List.mem_singleton,exists_eq_left];rw [q1,q2];exact ⟨fun h =>h.1,fun h =>⟨h,hr⟩⟩
  have hpast:zi (zs.take k) r=true→zf r < f:=fun hmm =>by
   obtain ⟨⟨y,hy,p,q⟩,_⟩:=(zE _ _).1 hmm;have e:=zr (hS.ends y (List.mem_of_mem_take hy)).1;have:=(qE hrr.2.2 e.2.2.2).2 q;have:=h.past y hy;omega
  cases m1:zi (zs.take k) r <;> cases m2:zi [x] r
  ·have:¬ (zf x.1≤zf r∧zf r≤zf x.2):=fun e =>by rw [hx1.2 e] at m2;cases m2
   simp;omega
  ·have:=hx1.1 m2;simp;omega
  ·have:=hpast m1;simp;omega
  ·have:=hpast m1;simp;omega
 ·rcases KC hx hy with e | e
  ·have:=h.past y e;omega
  ·subst e;omega
 ·have:=hS.apart k (k+1) x y (by omega) hx hy;omega
theorem zhI {zs:List (Int × Int)} (hS:Spread zs) {out:List (Int × Int)} {f:Int} (h:zjJ zs zs.length out f):Spread (zb3 out f 1112064)∧(∀ r,zi (zb3 out f 1112064) r=(zm r && !zi zs r))∧(zb3 out f 1112064).length≤zs.length+1:=by
 obtain ⟨a,b,c,d⟩:=KT h.spread h.low h.rng.1 (Int.le_refl _) h.rng.2;refine ⟨a,fun r =>?_,by have:=h.len;omega⟩;cases hr:zm r with
 | false =>simp [zi,hr]
 | true =>
  have hrr:=yL hr;have hk:=zH hrr.1 hrr.2.1;have hp:zi zs r=true→zf r < f:=fun hmm =>by
   obtain ⟨⟨y,hy,p,q⟩,_⟩:=(zE _ _).1 hmm;have e:=zr (hS.ends y hy).1;have:=(qE hrr.2.2 e.2.2.2).2 q;have:=h.past y (by rw [List.take_of_length_le zD];exact hy);omega
  rw [Bool.eq_iff_iff,b r hr,h.mem r hr,List.take_of_length_le zD];cases m:zi zs r
  ·simp;omega
  ·have:=hp m;simp;omega
set_option maxRecDepth 100000
set_option maxHeartbeats 8000000
theorem J1 (B lo0:Nat) (zs:List (Int × Int)) (f t:Int) (hn:zs.length≤1000000) (hS:Spread zs) (h0:0≤f) (h1:0≤t∧t≤1112064) (h2:f≤1112064) (w:World) (hG:Grows w B lo0 zs) (hl:lo0≤w.heap.size) :
  Calls Tryz.prog 230 #[.pointer (some ⟨B,0,none⟩),.int .i64 f,.int .i64 t] w fun e w' =>(∃ r,e=.returned r)∧Grows w' B lo0 (zb3 zs f t)∧Below lo0 w w'∧za1 w w' B:=by
 unfold zb3;by_cases h:f < t
 ·rw [if_pos h];have HL:=kz (zb2 B lo0 zs (zU f,zU (t - 1)) hn hS (KS h0 h1.2 h).1 w hG hl);have HA:=kz (fun w =>ZH f h0 (by omega) w);have HBb:=kz (fun w =>ZH (t - 1) (by omega) (by omega) w);clear hG hS;go_enter Tryz.func230,Tryz.ntmps230;go_wp2_with fail
  refine (oz HA _).mono ?_;rintro e w1 ⟨rfl,rfl⟩;go_wp2_with fail
  refine (oz HBb _).mono ?_;rintro e w2 ⟨rfl,rfl⟩;go_wp2_with fail
  refine (oz HL).mono ?_;rintro e w3 ⟨⟨r,rfl⟩,hg,hb,hfr⟩;have HG:=kz hg;have HB:=kz hb;have HFr:=kz hfr;clear hg hb hfr;go_wp2
  go_end0
  exact ⟨⟨_,rfl⟩,oz HG,oz HB,oz HFr⟩
 ·rw [if_neg h];have HG:=kz hG;clear hG hS;go_enter Tryz.func230,Tryz.ntmps230;go_wp2
  go_end0
  exact ⟨⟨_,rfl⟩,oz HG,zl,fun X _ _ _ =>rfl⟩
theorem zib {wr w6:World} {B lo0:Nat} {zs:List (Int × Int)} {cs:Array Value} {t:TypeId} (hm:Made wr B lo0 zs) (hf:za1 (wr.alloc (.cells cs t)) w6 B):Blk w6 wr.heap.size cs t:=by
 obtain ⟨va,vb,h1,h2,h3⟩:=hm.form;have hlt:=h1.lt;refine (hf wr.heap.size (by simp) (by omega) fun va' vb' hB =>?_).trans (Blk.new wr cs t);have e:=(show (wr.alloc (.cells cs t)).heap[B]?=_ from h1.alloc (.cells cs t)).symm.trans hB;simp at e;obtain ⟨rfl,rfl⟩:=e;exact ⟨fun e =>by have:=(h2.lt _ e).2;omega,fun e =>by have:=(h3.lt _ e).2;omega⟩
theorem zi9 (B:Nat) (zs:List (Int × Int)) (hz:zs.length≤100000) (w:World) (hs:SetAt w B zs) :
  Calls Tryz.prog 219 #[.pointer (some ⟨B,0,none⟩)] w fun e w' => ∃ (B' lo0:Nat) (ys:List (Int × Int)),e=.returned (.pointer (some ⟨B',0,none⟩))∧w.heap.size≤lo0∧Made w' B' lo0 ys∧Spread ys∧ys.length≤zs.length+1∧(∀ r,zi ys r=(zm r && !zi zs r))∧Below w.heap.size w w':=by
 obtain ⟨⟨a,ca,b,cb,hb0,hp,ha⟩,hsp,hl⟩:=hs;have HS:=kz hsp;have HP:=kz hp;have HBk:=kz hb0;have d0:=(hb0.alloc (.cells #[.slice none 0 0,.slice none 0 0] 226)).cell 0;have hzi:(zs.length:Int)≤100000:=by omega
 clear hsp hp ha hb0;go_enter Tryz.func219,Tryz.ntmps219;go_wp2;go_loopw [4,14] (fun fv iv wr => ∃ (k:Nat) (out:List (Int × Int)) (f:Int),iv=.int .i64 k∧fv=.int .i64 f∧k≤zs.length∧(0≤f∧f≤1112064)∧Hz (zjJ zs k out f)∧Hz (Grows wr w.heap.size w.heap.size out)∧Hz (Below w.heap.size w wr)) (fun _ iv _ =>zs.length - (intOf iv).toNat)
 case atStart =>exact ⟨0,[],0,rfl,rfl,by omega,by omega,kz (zd4 (oz HS)),kz (Jh w _ rfl),kz ((Below.refl _ w).alloc zD _)⟩
 case round =>
  obtain ⟨k,out,f,rfl,rfl,hk,hf,HI,HG,HB⟩:=hrel;have hol:out.length≤1000000:=by have:=(oz HI).len;omega
  by_cases hkn:k < zs.length
  ·have hk1:(k:Int) < (zs.length:Int):=by omega
   have hk2:=Zp k
   obtain ⟨x,hx⟩:∃ x,zs[k]?=some x:=⟨_,qR hkn⟩;have HI2:=kz (zfU (oz HS) (oz HI) hx);have he:=zr ((oz HS).ends x (YH hx)).1;have r1:=zH he.1.1 he.1.2.1;have r2:=zH he.2.1 he.2.2.1;obtain ⟨g,o,rfl,hg,hc⟩:=oz HP (by omega);have c0:=((oz HB).cell (p:=⟨g,o+k*2,none⟩) hg).trans (hc k x hx).1;have c1:=((oz HB).cell (p:=⟨g,o+k*2+1,none⟩) hg).trans (hc k x hx).2;obtain ⟨lo,hi⟩:=x;simp only at c0 c1 he r1 r2 HI2;have b1:=Blk.new wr #[.int .i32 lo,.int .i32 hi] 94;have q0:=b1.cell 0;have HB1:=kz ((oz HB).alloc (oz HB).size (.cells #[.int .i32 lo,.int .i32 hi] 94));have HG1:=kz ((oz HG).below ((Below.refl _ wr).alloc zD (.cells #[.int .i32 lo,.int .i32 hi] 94)));have HRk:=kz (fun w =>Yg lo (by omega) (by omega) w);have HRh:=kz (fun w =>Yg hi (by omega) (by omega) w);have HLR:=kz (J1 w.heap.size w.heap.size out f (zf lo) hol (oz HI).spread (by omega) (by omega) (by omega) _ (oz HG1) (oz HB1).size);clear b1 hc hx;go_wp2_with fail
   refine (oz HRk _).mono ?_;rintro e w5 ⟨rfl,rfl⟩;go_wp2_with fail
   refine (oz HLR).mono ?_;rintro e w6 ⟨⟨r,rfl⟩,hG,hb,hfr⟩;have hbx:=zib (oz HG).1 hfr;have x1:=hbx.cell 1;have HG2:=kz hG;have HB2:=kz ((oz HB1).trans hb);clear hG hb hfr hbx q0 c0 c1;go_wp2_with fail
   refine (oz HRh _).mono ?_;rintro e w7 ⟨rfl,rfl⟩;go_wp2
   go_roundw
   case rel =>exact ⟨k+1,_,_,by congr 1,rfl,by omega,by omega,HI2,HG2,HB2⟩
   case measure =>simp [intOf];omega
  ·have hk1:¬ (k:Int) < (zs.length:Int):=by omega
   obtain rfl:k=zs.length:=by omega
   have HE:=kz (zhI (oz HS) (oz HI));have HLR:=kz (J1 w.heap.size w.heap.size out f 1112064 hol (oz HI).spread (by omega) (by omega) (by omega) wr (oz HG) (oz HB).size);have HRk:=kz (fun w =>Yg 1114111 (by omega) (by omega) w);rw [show zf 1114111=1112063 by decide] at HRk;go_wp2_with fail
   refine (oz HRk _).mono ?_;rintro e w5 ⟨rfl,rfl⟩;go_wp2_with fail
   refine (oz HLR).mono ?_;rintro e w6 ⟨⟨r,rfl⟩,hG,hb,_⟩;have HG2:=kz hG;have HB2:=kz ((oz HB).trans hb);clear hG hb;go_wp2;go_ret;exact ⟨w.heap.size,w.heap.size,_,rfl,zD,(oz HG2).1,(oz HE).1,(oz HE).2.2,(oz HE).2.1,oz HB2⟩
structure Ko (zs ys:List (Int × Int)) (i j:Nat) (out:List (Int × Int)):Prop where
 spread:Spread out
 mem:∀ r,zi out r=true ↔ (zi (zs.take i) r=true∧zi ys r=true)∨(zi zs r=true∧zi (ys.take j) r=true)
 len:out.length≤i+j
theorem zcx (zs ys:List (Int × Int)):Ko zs ys 0 0 [] where
 spread:=⟨fun x h =>by simp at h,fun i j x y _ h =>by simp at h⟩
 mem r:=by simp [zi]
 len:=by simp
theorem zbh {zs:List (Int × Int)} (hS:Spread zs) {i:Nat} {a:Int × Int} (ha:zs[i]?=some a) {r:Int} (h:zi zs r=true):zi (zs.take i) r=true∨zi [a] r=true∨a.2 < r:=by
 obtain ⟨⟨x,hx,p,q⟩,hr⟩:=(zE _ _).1 h;obtain ⟨k,hk,rfl⟩:=List.mem_iff_getElem.1 hx;rcases Nat.lt_trichotomy k i with c | c | c
 ·exact .inl ((zE _ _).2 ⟨⟨zs[k],List.mem_iff_getElem.2 ⟨k,by rw [List.length_take];have:=(Ze.1 ha).1;omega,by simp⟩,p,q⟩,hr⟩)
 ·subst c;rw [qR hk] at ha;cases ha
  exact .inr (.inl ((zE _ _).2 ⟨⟨_,by simp,p,q⟩,hr⟩))
 ·have:=hS.lt i k a zs[k] c ha (qR hk);exact .inr (.inr (by omega))
theorem zeZ {zs:List (Int × Int)} (hS:Spread zs) {i:Nat} {a:Int × Int} (ha:zs[i]?=some a) {r:Int} (h:zi (zs.take i) r=true):r < a.1:=by
 obtain ⟨⟨x,hx,p,q⟩,hr⟩:=(zE _ _).1 h;obtain ⟨k,hk,e⟩:=List.mem_iff_getElem.1 hx;rw [List.length_take] at hk;have hx':zs[k]?=some x:=by rw [← e,List.getElem_take,qR (by omega)]
 have:=hS.lt k i x a (by omega) hx' ha;omega
theorem ZP (a:Int × Int) (r:Int):zi [a] r=true ↔ (a.1≤r∧r≤a.2)∧zm r=true:=by
 rw [zE];simp only [List.mem_singleton,exists_eq_left]
theorem Jw {zs:List (Int × Int)} {i:Nat} {a:Int × Int} (ha:zs[i]?=some a) (r:Int):zi (zs.take (i+1)) r=(zi (zs.take i) r || zi [a] r):=by rw [Yt ha,jY]
theorem Q3 {zs:List (Int × Int)} {i:Nat} {r:Int} (h:zi (zs.take i) r=true):zi zs r=true:=by
 obtain ⟨⟨x,hx,p⟩,hr⟩:=(zE _ _).1 h;exact (zE _ _).2 ⟨⟨x,List.mem_of_mem_take hx,p⟩,hr⟩
theorem ZI {zs:List (Int × Int)} {i:Nat} {a:Int × Int} (ha:zs[i]?=some a) {r:Int} (h:zi [a] r=true):zi zs r=true:=by
 obtain ⟨p,hr⟩:=(ZP a r).1 h;exact (zE _ _).2 ⟨⟨a,YH ha,p⟩,hr⟩
def Yv (a b:Int × Int):Int × Int:=(max a.1 b.1,min a.2 b.2)
theorem zdh (a b:Int × Int) (r:Int):zi [Yv a b] r=true ↔ zi [a] r=true∧zi [b] r=true:=by
 rw [ZP,ZP,ZP];unfold Yv;simp only;constructor
 ·rintro ⟨⟨p,q⟩,h⟩;exact ⟨⟨⟨by omega,by omega⟩,h⟩,⟨⟨by omega,by omega⟩,h⟩⟩
 ·rintro ⟨⟨⟨p,q⟩,h⟩,⟨⟨p',q'⟩,_⟩⟩;exact ⟨⟨by omega,by omega⟩,h⟩
theorem zgv {a b:Int × Int} (ha:yF a=true) (hb:yF b=true):yF (Yv a b)=true:=by
 have p:=yN ha;have q:=yN hb;refine zat ?_ ?_
 ·show zm (max a.1 b.1)=true;rcases Int.le_total a.1 b.1 with c | c
  ·rw [Int.max_eq_right c];exact q.1
  ·rw [Int.max_eq_left c];exact p.1
 ·show zm (min a.2 b.2)=true;rcases Int.le_total a.2 b.2 with c | c
  ·rw [Int.min_eq_left c];exact p.2
  ·rw [Int.min_eq_right c];exact q.2
def Ql (out:List (Int × Int)) (a b:Int × Int):List (Int × Int):=if (Yv a b).1≤(Yv a b).2 then Jy out (Yv a b) else out
theorem QP {zs ys:List (Int × Int)} (hS:Spread zs) (hY:Spread ys) {i j:Nat} {out:List (Int × Int)} {a b:Int × Int} (h:Ko zs ys i j out) (ha:zs[i]?=some a) (hb:ys[j]?=some b) :
  Spread (Ql out a b)∧(∀ r,zi (Ql out a b) r=true ↔ zi out r=true∨(zi [a] r=true∧zi [b] r=true))∧(Ql out a b).length≤out.length+1∧yF (Yv a b)=true:=by
 have hae:=(hS.ends a (YH ha)).1;have hbe:=(hY.ends b (YH hb)).1;have he:=zgv hae hbe;unfold Ql;by_cases c:(Yv a b).1≤(Yv a b).2
 ·rw [if_pos c];have hle:∀ y ∈ out,y.1≤(Yv a b).1:=fun y hy =>by
   have p:=h.spread.ends y hy;have hm:zi out y.1=true:=(zE _ _).2 ⟨⟨y,hy,by omega,p.2⟩,(yN p.1).1⟩;show y.1≤max a.1 b.1;rcases (h.mem y.1).1 hm with ⟨q,_⟩ | ⟨_,q⟩
   ·have:=zeZ hS ha q;omega
   ·have:=zeZ hY hb q;omega
  refine ⟨X9 h.spread he c hle,fun r =>?_,ZW _ _,he⟩;rw [Qn h.spread he c hle,Bool.or_eq_true,zdh]
 ·rw [if_neg c];refine ⟨h.spread,fun r =>?_,by omega,he⟩;rw [← zdh,ZP];constructor
  ·exact .inl
  ·rintro (q | ⟨q,_⟩)
   ·exact q
   ·omega
theorem zd7 {zs ys:List (Int × Int)} (hS:Spread zs) (hY:Spread ys) {i j:Nat} {out:List (Int × Int)} {a b:Int × Int} (h:Ko zs ys i j out) (ha:zs[i]?=some a) (hb:ys[j]?=some b) (hlt:a.2 < b.2):Ko zs ys (i+1) j (Ql out a b):=by
 obtain ⟨p,q,l,_⟩:=QP hS hY h ha hb;refine ⟨p,fun r =>?_,by have:=h.len;omega⟩;rw [q r,h.mem r,Jw ha,Bool.or_eq_true];constructor
 ·rintro ((⟨x,y⟩ | ⟨x,y⟩) | ⟨x,y⟩)
  ·exact .inl ⟨.inl x,y⟩
  ·exact .inr ⟨x,y⟩
  ·exact .inl ⟨.inr x,ZI hb y⟩
 ·rintro (⟨x | x,y⟩ | ⟨x,y⟩)
  ·exact .inl (.inl ⟨x,y⟩)
  ·rcases zbh hY hb y with z | z | z
   ·exact .inl (.inr ⟨ZI ha x,z⟩)
   ·exact .inr ⟨x,z⟩
   ·have:=((ZP a r).1 x).1;omega
  ·exact .inl (.inr ⟨x,y⟩)
theorem zcy {zs ys:List (Int × Int)} (hS:Spread zs) (hY:Spread ys) {i j:Nat} {out:List (Int × Int)} {a b:Int × Int} (h:Ko zs ys i j out) (ha:zs[i]?=some a) (hb:ys[j]?=some b) (hle:b.2≤a.2):Ko zs ys i (j+1) (Ql out a b):=by
 obtain ⟨p,q,l,_⟩:=QP hS hY h ha hb;refine ⟨p,fun r =>?_,by have:=h.len;omega⟩;rw [q r,h.mem r,Jw hb,Bool.or_eq_true];constructor
 ·rintro ((⟨x,y⟩ | ⟨x,y⟩) | ⟨x,y⟩)
  ·exact .inl ⟨x,y⟩
  ·exact .inr ⟨x,.inl y⟩
  ·exact .inr ⟨ZI ha x,.inr y⟩
 ·rintro (⟨x,y⟩ | ⟨x,y | y⟩)
  ·exact .inl (.inl ⟨x,y⟩)
  ·exact .inl (.inr ⟨x,y⟩)
  ·rcases zbh hS ha x with z | z | z
   ·exact .inl (.inl ⟨z,ZI hb y⟩)
   ·exact .inr ⟨z,y⟩
   ·have:=((ZP b r).1 y).1;omega
theorem zbi {zs ys:List (Int × Int)} {i j:Nat} {out:List (Int × Int)} (h:Ko zs ys i j out) (he:zs.length≤i∨ys.length≤j):∀ r,zi out r=(zi zs r && zi ys r):=fun r =>by
 rw [Bool.eq_iff_iff,h.mem r,Bool.and_eq_true];constructor
 ·rintro (⟨x,y⟩ | ⟨x,y⟩)
  ·exact ⟨Q3 x,y⟩
  ·exact ⟨x,Q3 y⟩
 ·rintro ⟨x,y⟩;rcases he with e | e
  ·exact .inl ⟨by rw [List.take_of_length_le e];exact x,y⟩
  ·exact .inr ⟨x,by rw [List.take_of_length_le e];exact y⟩
theorem KX {wr w5 w6:World} {B lo0 X:Nat} {zs:List (Int × Int)} {cs:Array Value} {t:TypeId} (hm:Made wr B lo0 zs) (hb:Below wr.heap.size wr w5) (hX:Blk w5 X cs t) (hge:wr.heap.size≤X) (hf:za1 w5 w6 B):Blk w6 X cs t:=by
 obtain ⟨va,vb,h1,h2,h3⟩:=hm.form;have hlt:=h1.lt;refine (hf X hX.lt (by omega) fun va' vb' hB =>?_).trans hX;have e:=(show w5.heap[B]?=_ from h1.below hb h1.lt).symm.trans hB;simp at e;obtain ⟨rfl,rfl⟩:=e;exact ⟨fun e =>by have:=(h2.lt _ e).2;omega,fun e =>by have:=(h3.lt _ e).2;omega⟩
theorem zal (C:Nat) (w:World):Calls Tryz.prog 217 #[.pointer (some ⟨C,0,none⟩)] w fun e w' =>e=.returned (.pointer (some ⟨C,0,none⟩))∧w'=w:=by
 go_enter Tryz.func217,Tryz.ntmps217;go_wp2;go_ret;exact ⟨rfl,rfl⟩
theorem ZR {w:World} {a:Addr} {v:Value} (h:w.cell? a=some v):∀ o:Obj,(w.alloc o).cell? a=some v:=fun o =>yK o h
theorem zaV {w:World} {a:Addr} {v:Value} (h:w.cell? a=some v):∀ o o':Obj,((w.alloc o).alloc o').cell? a=some v:=fun o o' =>yK o' (yK o h)
theorem zak (w:World):Calls Tryz.prog 217 #[.pointer none] w fun e w' =>e=.returned (.pointer (some ⟨w.heap.size,0,none⟩))∧w'=w.alloc (.cells #[.slice none 0 0,.slice none 0 0] 226):=by
 go_enter Tryz.func217,Tryz.ntmps217;go_wp2;go_ret;exact ⟨rfl,rfl⟩
theorem za3 (w:World) (xs ys:Array Value):Blk ((w.alloc (.cells xs 94)).alloc (.cells ys 94)).drew w.heap.size xs 94∧Blk ((w.alloc (.cells xs 94)).alloc (.cells ys 94)).drew (w.heap.size+1) ys 94∧Below w.heap.size w ((w.alloc (.cells xs 94)).alloc (.cells ys 94)).drew:=by
 refine ⟨(Blk.new w xs 94).alloc _, ?_,(((Below.refl w.heap.size w).alloc zD _).alloc (by simp) _).drew⟩;have:=Blk.new (w.alloc (.cells xs 94)) ys 94;rw [World.size_alloc] at this;exact this
theorem Jg (w:World):Grows ((w.alloc (.cells #[.slice none 0 0,.slice none 0 0] 226)).alloc (.cells #[.slice none 0 0,.slice none 0 0] 226)).drew w.heap.size w.heap.size []∧Grows ((w.alloc (.cells #[.slice none 0 0,.slice none 0 0] 226)).alloc (.cells #[.slice none 0 0,.slice none 0 0] 226)).drew (w.heap.size+1) w.heap.size []∧Below w.heap.size w ((w.alloc (.cells #[.slice none 0 0,.slice none 0 0] 226)).alloc (.cells #[.slice none 0 0,.slice none 0 0] 226)).drew:=by
 have b:Blk ((w.alloc (.cells #[.slice none 0 0,.slice none 0 0] 226)).alloc (.cells #[.slice none 0 0,.slice none 0 0] 226)).drew (w.heap.size+1) #[.slice none 0 0,.slice none 0 0] 226:=by
  have:=Blk.new (w.alloc (.cells #[.slice none 0 0,.slice none 0 0] 226)) #[.slice none 0 0,.slice none 0 0] 226;rw [World.size_alloc] at this;exact this
 exact ⟨(Jh w _ rfl).below (zl.alloc zD _).drew,⟨⟨⟨_,_,b,World.ownsRow_nil _ _ _ _,World.ownsRow_nil _ _ _ _⟩,Nat.le_succ _⟩,fun _ =>b⟩,(((Below.refl w.heap.size w).alloc zD _).alloc (by simp) _).drew⟩
def SomeAt (w:World) (p:Option Addr) (ys:List (Int × Int)):Prop:=(p=none∧ys=[])∨∃ C,p=some ⟨C,0,none⟩∧SetAt w C ys
theorem SomeAt.spread {w:World} {p:Option Addr} {ys:List (Int × Int)} (h:SomeAt w p ys):Spread ys:=by
 rcases h with ⟨_,rfl⟩ | ⟨C,_,h⟩
 ·exact ⟨fun x h =>by simp at h,fun i j x y _ h =>by simp at h⟩
 ·exact h.spread
theorem zao {zs ys out:List (Int × Int)} {i j:Nat} (h:Ko zs ys i j out) (hi:i≤zs.length) (hj:j≤ys.length):out.length≤zs.length+ys.length:=by have:=h.len;omega
theorem zhP (B:Nat) (p:Option Addr) (zs ys:List (Int × Int)) (hz:zs.length≤10000) (hy:ys.length≤10000) (w:World) (hs:SetAt w B zs) (ht:SomeAt w p ys) :
  Calls Tryz.prog 218 #[.pointer (some ⟨B,0,none⟩),.pointer p] w fun e w' => ∃ (B' lo0:Nat) (us:List (Int × Int)),e=.returned (.pointer (some ⟨B',0,none⟩))∧w.heap.size≤lo0∧Made w' B' lo0 us∧Spread us∧us.length≤zs.length+ys.length∧(∀ r,zi us r=(zi zs r && zi ys r))∧Below w.heap.size w w':=by
 have HS:=kz hs.spread;have HY:=kz ht.spread;have HT:=kz ht;obtain ⟨⟨a,ca,b,cb,hb0,hp,_⟩,_,_⟩:=hs;have HP:=kz hp;have HBk:=kz hb0;clear hp hb0 ht;go_enter Tryz.func218,Tryz.ntmps218;go_wp2
 rename_i K1 hK1
 have key:∀ (w1:World) (a2:Act) (Bm:Nat) (oa:Option Addr) (oc:Nat),(∃ U:Nat→Value,a2 = { tmps:=#[.pointer (some ⟨B,0,none⟩),.pointer p,U 2,U 3,.pointer none,.pointer (some ⟨Bm,0,none⟩),.slice oa ys.length oc,U 7,U 8,U 9,U 10,U 11,U 12,U 13,U 14,U 15,U 16,U 17,U 18,U 19,U 20,U 21,U 22,U 23,U 24,U 25,U 26,U 27,U 28,U 29,U 30,U 31,U 32,U 33,U 34,U 35,U 36,U 37,U 38,U 39,U 40,U 41,U 42,U 43,U 44,U 45,U 46,U 47,U 48,U 49,U 50,U 51,U 52,U 53,U 54,U 55,U 56,U 57,U 58,U 59,U 60,U 61,U 62,U 63,U 64,U 65,U 66,U 67,U 68,U 69],defers := [] })→Grows w1 Bm w.heap.size []→Below w.heap.size w w1→RowP w oa ys→K1 a2 w1:=by
  rintro w1 a2 Bm oa oc ⟨U,rfl⟩ hG hB hQ;have HG1:=kz hG;have HB1:=kz hB;have HQ:=kz hQ;apply hK1;clear hK1 hG hB hQ HT;go_wp2;go_loopw [7,8] (fun iv jv wr => ∃ (i j:Nat) (out:List (Int × Int)),iv=.int .i64 i∧jv=.int .i64 j∧i≤zs.length∧j≤ys.length∧Hz (Ko zs ys i j out)∧Hz (Grows wr Bm w.heap.size out)∧Hz (Below w.heap.size w wr)) (fun iv jv _ =>zs.length+ys.length - ((intOf iv).toNat+(intOf jv).toNat))
  case atStart =>exact ⟨0,0,[],rfl,rfl,by omega,by omega,kz (zcx zs ys),HG1,HB1⟩
  case round =>
   obtain ⟨i,j,out,rfl,rfl,hi,hj,HI,HG,HB⟩:=hrel;have d0:=((oz HBk).below (oz HB) (oz HBk).lt).cell 0;clear HG1 HB1;by_cases hin:i < zs.length
   ·have hi1:(i:Int) < (zs.length:Int):=by omega
    have hi2:((i:Nat):Int).toNat=i:=by omega
    by_cases hjn:j < ys.length
    ·have hj1:(j:Int) < (ys.length:Int):=by omega
     have hj2:((j:Nat):Int).toNat=j:=by omega
     obtain ⟨x,hx⟩:∃ x,zs[i]?=some x:=⟨_,qR hin⟩;obtain ⟨y,hy'⟩:∃ y,ys[j]?=some y:=⟨_,qR hjn⟩;obtain ⟨g,o,rfl,hg,hc⟩:=oz HP (by omega);obtain ⟨g',o',rfl,hg',hc'⟩:=oz HQ (by omega);have c0:=((oz HB).cell (p:=⟨g,o+i*2,none⟩) hg).trans (hc i x hx).1;have c1:=((oz HB).cell (p:=⟨g,o+i*2+1,none⟩) hg).trans (hc i x hx).2;have e0:=((oz HB).cell (p:=⟨g',o' + j*2,none⟩) hg').trans (hc' j y hy').1;have e1:=((oz HB).cell (p:=⟨g',o' + j*2+1,none⟩) hg').trans (hc' j y hy').2;have HLa:=kz (QP (oz HS) (oz HY) (oz HI) hx hy');have HLl:=kz (fun h =>zd7 (oz HS) (oz HY) (oz HI) hx hy' h);have HLr:=kz (fun h =>zcy (oz HS) (oz HY) (oz HI) hx hy' h);have hol:out.length≤1000000:=by have:=zao (oz HI) hi hj;omega
     have HSo:=kz (oz HI).spread;obtain ⟨al,ah⟩:=x;obtain ⟨bl,bh⟩:=y;simp only at c0 c1 e0 e1;clear hc hc' hx hy' HP HQ HS HY HI;have c01:=ZR c0;have c02:=zaV c0;have c11:=ZR c1;have c12:=zaV c1;have e01:=ZR e0;have e02:=zaV e0;have e11:=ZR e1;have e12:=zaV e1;have d01:=ZR d0;have d02:=zaV d0;go_wp2_with fail
     rename_i K2 hK2
     have key2:∀ (w2:World) (a2:Act) (Pa Pb:Nat),(∃ V:Nat→Value,a2 = { tmps:=#[.pointer (some ⟨B,0,none⟩),.pointer p,U 2,U 3,.pointer none,.pointer (some ⟨Bm,0,none⟩),.slice (some ⟨g',o',none⟩) ys.length oc,.int .i64 i,.int .i64 j,.pointer (some ⟨Pa,0,none⟩),.pointer (some ⟨Pb,0,none⟩),V 11,U 12,U 13,U 14,U 15,U 16,U 17,U 18,V 19,V 20,V 21,V 22,V 23,V 24,V 25,V 26,V 27,V 28,V 29,V 30,V 31,V 32,V 33,V 34,V 35,V 36,V 37,V 38,V 39,V 40,V 41,V 42,V 43,V 44,V 45,V 46,V 47,V 48,V 49,V 50,V 51,V 52,V 53,V 54,V 55,V 56,V 57,V 58,V 59,V 60,V 61,V 62,V 63,V 64,V 65,V 66,V 67,V 68,U 69],defers := [] })→Blk w2 Pa #[.int .i32 al,.int .i32 ah] 94→Blk w2 Pb #[.int .i32 bl,.int .i32 bh] 94→wr.heap.size≤Pa→wr.heap.size≤Pb→Below wr.heap.size wr w2→K2 a2 w2:=by
      rintro w2 a2 Pa Pb ⟨V,rfl⟩ ha hb hpa hpb hB2;apply hK2;clear hK2 c0 c1 e0 e1 c01 c02 c11 c12 e01 e02 e11 e12 d0 d01 d02;have a0:=ha.cell 0;have a1:=ha.cell 1;have b0:=hb.cell 0;have b1:=hb.cell 1;have HA:=kz ha;have HBb:=kz hb;have HB2:=kz hB2;have HPa:=kz hpa;have HPb:=kz hpb;clear ha hb hB2 hpa hpb;have HX:=kz (Blk.new w2 #[.int .i32 (max al bl),.int .i32 (min ah bh)] 94);have HAl:=kz ((Below.refl w2.heap.size w2).alloc zD (.cells #[.int .i32 (max al bl),.int .i32 (min ah bh)] 94));have HFa:=kz (fun w =>ZY (max al bl,min ah bh) w);by_cases hf:min ah bh < max al bl
      ·have hd:decide (min ah bh < max al bl)=true:=JS hf;have HM:Hz (Ql out (al,ah) (bl,bh)=out):=kz (by unfold Ql Yv;rw [if_neg];simp only;omega);rw [oz HM] at HLl HLr;clear hf;go_wp2_with fail
       refine (oz HFa _).mono ?_;rintro e w3 ⟨rfl,hb3⟩;have hb23:=(oz HAl).trans (hb3.mono (oz HAl).size);have HB3:=kz ((oz HB2).trans (hb23.mono (oz HB2).size));have f1:=((oz HA).below hb23 (oz HA).lt).cell 1;have g1:=((oz HBb).below hb23 (oz HBb).lt).cell 1;have HG3:=kz ((oz HG).below (oz HB3));have HB4:=kz ((oz HB).trans ((oz HB3).mono (oz HB).size));clear hb3 hb23 a0 a1 b0 b1;by_cases hlt:ah < bh
       ·have HN:=kz (oz HLl hlt);go_wp2
        go_roundw
        case rel =>exact ⟨i+1,j,out,by congr 1,rfl,by omega,by omega,HN,HG3,HB4⟩
        case measure =>simp [intOf];omega
       ·have HN:=kz (oz HLr (by omega));go_wp2
        go_roundw
        case rel =>exact ⟨i,j+1,out,rfl,by congr 1,by omega,by omega,HN,HG3,HB4⟩
        case measure =>simp [intOf];omega
      ·have hd:decide (min ah bh < max al bl)=false:=Zq hf;have HM:Hz (Ql out (al,ah) (bl,bh)=Jy out (max al bl,min ah bh)):=kz (by unfold Ql Yv;rw [if_pos];simp only;omega);have HE:Hz (yF (max al bl,min ah bh)=true):=kz (oz HLa).2.2.2;rw [oz HM] at HLl HLr;clear hf;go_wp2_with fail
       refine (oz HFa _).mono ?_;rintro e w3 ⟨rfl,hb3⟩;have hb23:=(oz HAl).trans (hb3.mono (oz HAl).size);have HB3:=kz ((oz HB2).trans (hb23.mono (oz HB2).size));have hA3:=(oz HA).below hb23 (oz HA).lt;have hB3:=(oz HBb).below hb23 (oz HBb).lt;have hX3:=(oz HX).below hb3 (oz HX).lt;have HA3:=kz hA3;have HBb3:=kz hB3;have x0:=hX3.cell 0;have x1:=hX3.cell 1;have HG3:=kz ((oz HG).below (oz HB3));have HB4:=kz ((oz HB).trans ((oz HB3).mono (oz HB).size));have HLy:=kz (zb2 Bm w.heap.size out (max al bl,min ah bh) hol (oz HSo) (oz HE) w3 (oz HG3) (oz HB4).size);clear hb3 hb23 a0 a1 b0 b1 hA3 hB3 hX3;go_wp2_with fail
       refine (oz HLy).mono ?_;rintro e w5 ⟨⟨r,rfl⟩,hG5,hb5,hfr⟩;have f1:=(KX (oz HG).1 (oz HB3) (oz HA3) (oz HPa) hfr).cell 1;have g1:=(KX (oz HG).1 (oz HB3) (oz HBb3) (oz HPb) hfr).cell 1;have HG5:=kz hG5;have HB5:=kz ((oz HB4).trans hb5);clear hG5 hb5 hfr x0 x1;by_cases hlt:ah < bh
       ·have HN:=kz (oz HLl hlt);go_wp2
        go_roundw
        case rel =>exact ⟨i+1,j,_,by congr 1,rfl,by omega,by omega,HN,HG5,HB5⟩
        case measure =>simp [intOf];omega
       ·have HN:=kz (oz HLr (by omega));go_wp2
        go_roundw
        case rel =>exact ⟨i,j+1,_,rfl,by congr 1,by omega,by omega,HN,HG5,HB5⟩
        case measure =>simp [intOf];omega
     have KEY2:=kz key2;clear key2 hK2
     go_big_region
     ·have hP:=za3 wr #[.int .i32 al,.int .i32 ah] #[.int .i32 bl,.int .i32 bh];exact oz KEY2 _ _ wr.heap.size (wr.heap.size+1) (zq rfl) hP.1 hP.2.1 (by omega) (by omega) hP.2.2
     ·have hP:=za3 wr #[.int .i32 bl,.int .i32 bh] #[.int .i32 al,.int .i32 ah];exact oz KEY2 _ _ (wr.heap.size+1) wr.heap.size (zq rfl) hP.2.1 hP.1 (by omega) (by omega) hP.2.2
    ·have hj1:¬ (j:Int) < (ys.length:Int):=by omega
     have HE:=kz (zbi (oz HI) (.inr (by omega)));have HLn:=kz (zao (oz HI) hi hj);go_wp2;go_ret;exact ⟨Bm,rfl,w.heap.size,zD,out,(oz HG).1,(oz HI).spread,oz HLn,oz HE,oz HB⟩
   ·have hi1:¬ (i:Int) < (zs.length:Int):=by omega
    have HE:=kz (zbi (oz HI) (.inl (by omega)));have HLn:=kz (zao (oz HI) hi hj);go_wp2;go_ret;exact ⟨Bm,rfl,w.heap.size,zD,out,(oz HG).1,(oz HI).spread,oz HLn,oz HE,oz HB⟩
 have KEY:=kz key;clear key hK1;have hmx2:Tryz.prog.follows .mixedOrders=true:=by kernel_rfl
 rcases oz HT with ⟨rfl,rfl⟩ | ⟨C,rfl,hC⟩
 ·have HSo:=kz (fun w =>zak w);have d0:=(Blk.new w #[.slice none 0 0,.slice none 0 0] 226).cell 0;have d1:=ZR d0;have d2:∀ o:Obj,((w.alloc o).alloc (.cells #[.slice none 0 0,.slice none 0 0] 226)).cell? ⟨w.heap.size+1,0,none⟩=some (.slice none 0 0):=fun o =>by
   have:=(Blk.new (w.alloc o) #[.slice none 0 0,.slice none 0 0] 226).cell 0;rw [World.size_alloc] at this;exact this
  go_region_law (go_simp;refine (oz HSo _).mono ?_;rintro e w2 ⟨rfl,rfl⟩)
  all_goals first
   | exact oz KEY _ _ w.heap.size none 0 (zq rfl) (Jg w).1 (Jg w).2.2 (fun h =>by simp at h)
   | exact oz KEY _ _ (w.heap.size+1) none 0 (zq rfl) (Jg w).2.1 (Jg w).2.2 (fun h =>by simp at h)
 ·obtain ⟨⟨c,cc,d,cd,hc0,hq,_⟩,_,_⟩:=hC;have HQ:=kz hq;have HSo:=kz (fun w =>zal C w);have d0:=hc0.cell 0;have d1:=ZR d0;clear hq hc0;go_region_law (go_simp;refine (oz HSo _).mono ?_;rintro e w2 ⟨rfl,rfl⟩)
  all_goals exact oz KEY _ _ w.heap.size _ _ (zq rfl) ((Jh w _ rfl).below zl.drew) ((Below.refl _ w).alloc zD _).drew (oz HQ)
set_option linter.unusedSimpArgs false
theorem Kj (W:World) (lo:Nat) (v:Value) (xs ys:List (Int × Int)) (b:Option Addr) (cb:Nat) (hx:xs.length≤1000000) (hy:ys.length≤1000000) (hv:W.ownsRow lo 94 2 v xs.length (qS xs)) (hr:RowP W b ys) (hlo:lo≤W.heap.size) :
  ∃ v1 W1,(Builtin.append_ #[26,26] 26 #[v,.slice b ys.length cb]).run Tryz.prog W=.ok v1 W1∧W1.ownsRow lo 94 2 v1 (xs++ys).length (qS (xs++ys))∧W.grownBy W1 v.ownBlock:=by
 obtain ⟨iP,hi0,hi1,hi2,hi3⟩:=info_parts zed;have hcells:∀ p,b=some p→∀ j u,(qS ys)[j]?=some u→W.cell? (p.add j)=some u:=fun p hp j u hu =>by
  have hl:=(Ze.1 hu).1;rw [jZ] at hl;obtain ⟨g,o,h,hg,hc⟩:=hr (by omega);rw [hp] at h;cases h
  rw [Xb];exact KY hc j u hu
 cases b with
 | none =>
  have h0:ys=[]:=by
   by_cases e:0 < ys.length
   ·obtain ⟨g,o,h,_⟩:=hr e;cases h
   ·exact List.eq_nil_of_length_eq_zero (by omega)
  subst h0;refine ⟨v,W, ?_,by simpa using hv,⟨rfl,rfl,rfl,zD,fun _ _ _ =>rfl⟩⟩;rcases hv.2 with ⟨rfl,_⟩ | ⟨g,cap,cur,rfl,_,hg,h1,_⟩
  ·simp [Builtin.append_,run_underlying Tryz.underlying26,sizeOf,typeInfo,hi0,Builtin.lenOf,Builtin.firstCells,loadCells,loadCellsFrom]
  ·simp [Builtin.append_,run_underlying Tryz.underlying26,sizeOf,typeInfo,hi0,Builtin.lenOf,Builtin.firstCells,loadCells,loadCellsFrom,h1,storeCells]
 | some p =>
  obtain ⟨v2,w2,hr2,ho2,hg2,_⟩:=run_append_own (P:=Tryz.prog) W lo 26 26 94 iP (.agg #[.int .i32 0,.int .i32 0]) 2 8 Tryz.underlying26 hi0 hi1 hi2 hi3 rfl (by decide) v xs.length (qS xs) hv p ys.length cb (qS ys) (jZ ys) (hcells p rfl) (Qq ys) (by unfold maxLen;omega) (by omega) hlo;exact ⟨v2,w2,hr2,by rw [YT,List.length_append];exact ho2,hg2⟩
theorem zgc (n:Nat) (hn:n≤2000000) (w:World):Calls Tryz.prog 229 #[.slice none 0 0,.int .i64 n] w fun e w' => ∃ v,e=.returned v∧w'.ownsRow w.heap.size 94 2 v 0 []∧Below w.heap.size w w':=by
 by_cases h0:0 < n
 ·obtain ⟨i0,hi,hz0,hz1,hz2⟩:=info_parts zed;have kzr:=Lib.run_append_nil_zeros (P:=Tryz.prog) w 26 3 26 94 i0 (.agg #[.int .i32 0,.int .i32 0]) .i64 .i64 Tryz.underlying26 Tryz.underlying3 hi hz0 n h0 (by rw [hz1];omega) (by omega) (by rw [hz2];omega);have hge:=grownCap_ge w n 0 94;have hle:=grownCap_le_maxLen w n 0 94 (by unfold maxLen;omega);have hcz:∀ m,(Builtin.zeroCells (Value.agg #[.int .i32 0,.int .i32 0]).cells m).size=2*m:=fun m =>by rw [size_zeroCells];simp [Value.cells];omega
  have hsz:(Builtin.zeroCells (Value.agg #[.int .i32 0,.int .i32 0]).cells n++Builtin.zeroCells (Value.agg #[.int .i32 0,.int .i32 0]).cells (grownCap w n 0 94 - n)).size=2*grownCap w n 0 94:=by rw [Array.size_append,hcz,hcz];omega
  generalize Builtin.zeroCells (Value.agg #[.int .i32 0,.int .i32 0]).cells n++Builtin.zeroCells (Value.agg #[.int .i32 0,.int .i32 0]).cells (grownCap w n 0 94 - n)=cs at *;generalize grownCap w n 0 94=cap at *;have h1:(0:Int) < (n:Int):=by omega
  have h2:(n:Int)≤4194304:=by omega
  have HSZ:=kz hsz;have hcap:(0:Int)≤(cap:Int):=by omega
  have HLE:=kz hle;have HGE:=kz hge;clear hi hz0 hz1 hz2 hcz hsz hle hge;go_enter Tryz.func229,Tryz.ntmps229;go_wp2_with (at_builtin;refine Lib.wpList_append_run _ rfl _ _ 26 3 rfl (.slice none 0 0) (.int .i64 n) rfl rfl _ _ kzr ?_)
  go_ret;refine ⟨_,rfl,⟨by simp,.inr ⟨w.heap.size,cap,cs,rfl,zD,World.alloc_heap_new w.drew _,by omega,oz HLE,by rw [oz HSZ];omega,by simp⟩⟩,(zl.drew).alloc zD _⟩
 ·obtain rfl:n=0:=by omega
  clear h0 hn;go_enter Tryz.func229,Tryz.ntmps229;go_wp2;go_ret;exact ⟨_,rfl,World.ownsRow_nil _ _ _ _,zl⟩
theorem Kd (G:Nat) (a b:Option Addr) (c1 c2:Nat) (xs ys:List (Int × Int)) (hx:xs.length≤1000000) (hy:ys.length≤1000000) (w:World) (hB:Blk w G #[.slice a xs.length c1,.slice b ys.length c2] 26) (h1:RowP w a xs) (h2:RowP w b ys) :
  Calls Tryz.prog 216 #[.slice (some ⟨G,0,none⟩) 2 2] w fun e w' => ∃ v,e=.returned v∧w'.ownsRow w.heap.size 94 2 v (xs++ys).length (qS (xs++ys))∧Below w.heap.size w w':=by
 have d0:=hB.cell 0;have d1:=hB.cell 1;have HBk:=kz hB;have H1:=kz h1;have H2:=kz h2;have hxi:(xs.length:Int)≤1000000:=by omega
 have hyi:(ys.length:Int)≤1000000:=by omega
 clear hB h1 h2;have hgr:=zgc (xs.length+ys.length) (by omega);rw [show ((xs.length+ys.length:Nat):Int)=(xs.length:Int)+(ys.length:Int) by omega] at hgr;have HG:=kz hgr;have hs1:¬ (xs.length:Int) < 0:=by omega
 have hs2:¬ (xs.length:Int)+(ys.length:Int) < 0:=by omega
 clear hgr;go_enter Tryz.func216,Tryz.ntmps216;go_wp2_with fail
 refine wp_loop_rounds 3 ?_;rw [rounds_succ];go_wp2_with fail
 rw [rounds_succ];go_wp2_with fail
 rw [rounds_succ];go_wp2_with fail
 refine (oz HG _).mono ?_;rintro e w1 ⟨v,rfl,hown,hb⟩;have hlt1:=hb.size;have K1:=(oz H1).below hb;obtain ⟨v2,w2,hr2,ho2,hg2⟩:=Kj w1 w.heap.size v [] xs a c1 (by simp) hx (show w1.ownsRow w.heap.size 94 2 v 0 [] from hown) K1 hlt1;rw [List.nil_append] at ho2;have hb2:Below w.heap.size w w2:=hb.grown hg2 hlt1 (fun k hk =>(hown.lt k hk).1);have hBk:=(oz HBk).below hb (oz HBk).lt;clear d0 d1;have d0:=hBk.cell 0;have d1:=hBk.cell 1;have hBk2:=(oz HBk).below hb2 (oz HBk).lt;have f1:=hBk2.cell 1;have hlt2:=hb2.size;have K2:=(oz H2).below hb2;obtain ⟨v3,w3,hr3,ho3,hg3⟩:=Kj w2 w.heap.size v2 xs ys b c2 hx hy ho2 K2 hlt2;have hb3:Below w.heap.size w w3:=hb2.grown hg3 hlt2 (fun k hk =>(ho2.lt k hk).1);have HE:=kz ho3;have HBE:=kz hb3;have HR2:=kz hr2;have HR3:=kz hr3;clear hown hb hBk K1 hr2 ho2 hg2 hb2 hBk2 K2 hr3 ho3 hg3 hb3 hs1 hs2 HG;go_wp2_with fail
 refine wp_loop_rounds 3 ?_;rw [rounds_succ];go_wp2_with (at_builtin;refine Lib.wpList_append_run _ rfl _ _ 26 26 rfl v (.slice a xs.length c1) rfl rfl v2 w2 (oz HR2) ?_)
 rw [rounds_succ];go_wp2_with (at_builtin;refine Lib.wpList_append_run _ rfl _ _ 26 26 rfl v2 (.slice b ys.length c2) rfl rfl v3 w3 (oz HR3) ?_)
 rw [rounds_succ];go_wp2;go_ret;exact ⟨_,rfl,oz HE,oz HBE⟩
theorem zdW {zs ys:List (Int × Int)} (h:Spread zs) (g:Spread ys):yO (zs++ys):=fun x hx =>by
 rcases List.mem_append.1 hx with e | e
 ·exact h.ends x e
 ·exact g.ends x e
theorem zfq (B:Nat) (p:Option Addr) (zs ys:List (Int × Int)) (hz:zs.length≤10000) (hy:ys.length≤10000) (w:World) (hs:SetAt w B zs) (ht:SomeAt w p ys) :
  Calls Tryz.prog 167 #[.pointer (some ⟨B,0,none⟩),.pointer p] w fun e w' => ∃ (B' lo0:Nat) (us:List (Int × Int)),e=.returned (.pointer (some ⟨B',0,none⟩))∧w.heap.size≤lo0∧Made w' B' lo0 us∧Spread us∧us.length≤zs.length+ys.length∧(∀ r,zi us r=(zi zs r || zi ys r))∧Below w.heap.size w w':=by
 have hRt:=zdW hs.spread ht.spread;obtain ⟨⟨a,ca,b,cb,hb0,hp,ha⟩,hsp,hl⟩:=hs;have d0:=hb0.cell 0;have d1:=ZR d0;have hmx2:Tryz.prog.follows .mixedOrders=true:=by kernel_rfl
 have hmem:∀ r,zi (zs++ys) r=(zi zs r || zi ys r):=jY zs ys;have hlen:(zs++ys).length=zs.length+ys.length:=List.length_append;rcases ht with ⟨rfl,rfl⟩ | ⟨C,rfl,hC⟩
 ·have HSo:=kz (fun w =>zak w);have x0:=(Blk.new w #[.slice none 0 0,.slice none 0 0] 226).cell 0;obtain ⟨W1,hW1⟩:∃ W1,W1=((w.alloc (.cells #[.slice none 0 0,.slice none 0 0] 226)).alloc (.cells #[.slice a zs.length ca,.slice none 0 0] 26)).drew:=⟨_,rfl⟩;have hb1:Below w.heap.size w W1:=by rw [hW1];exact (((Below.refl w.heap.size w).alloc zD _).alloc (by simp) _).drew
  have hG:Blk W1 (w.heap.size+1) #[.slice a zs.length ca,.slice none 0 0] 26:=by
   have:=Blk.new (w.alloc (.cells #[.slice none 0 0,.slice none 0 0] 226)) #[.slice a zs.length ca,.slice none 0 0] 26;rw [World.size_alloc] at this;rw [hW1];exact this
  have hCo:=Kd (w.heap.size+1) a none ca 0 zs [] (by omega) (by simp) W1 hG (hp.below hb1) (fun h =>by simp at h);generalize zs++[]=us at *;have HCo:=kz hCo;have HB1:=kz hb1;have HRt:=kz hRt;have HMe:=kz hmem;have HLe:=kz hlen;rw [hW1] at HCo;clear hp ha hsp hb0 hl hb1 hG hCo hRt hmem hlen;go_enter Tryz.func167,Tryz.ntmps167;go_wp2_with fail
  go_region_law (first
   | (go_simp;refine (oz HSo _).mono ?_;rintro e w2 ⟨rfl,rfl⟩)
   | (go_simp;refine (oz HCo).mono ?_;rintro e w2 ⟨v,rfl,hown,hb⟩;obtain ⟨av,cv,rfl,hrow,_,_⟩:=KO hown;have HRow:=kz hrow;have HBc:=kz hb;clear hown hrow hb)
   | (go_simp;refine (zam av cv us (by have:=oz HLe;simp at this;omega) (oz HRt) _ (oz HRow)).mono ?_;rintro e w3 ⟨B',lo0,os,rfl,h1,h2,h3,h4,h5,h6⟩;have HE:=kz (yB h1 (yB h2 (yB h3 (yB h4 (yB h5 h6)))));clear h1 h2 h3 h4 h5 h6))
  all_goals
   rw [← hW1] at HBc;go_wp2;go_ret;obtain ⟨h1,h2,h3,h4,h5,h6⟩:=oz HE;have s1:=(oz HB1).size;have s2:=(oz HBc).size;have hle:=oz HLe;have hle2:us.length=zs.length:=by simpa using hle
   exact ⟨B',rfl,lo0,by omega,os,h2,h3,by first | omega | (simp;omega),fun r =>by rw [h5 r,oz HMe r],(oz HB1).trans (((oz HBc).trans (h6.mono s2)).mono s1)⟩
 ·obtain ⟨⟨c,cc,d,cd,hc0,hq,_⟩,_,hl'⟩:=hC;have e0:=hc0.cell 0;have e1:=ZR e0;have HSo:=kz (fun w =>zal C w);obtain ⟨W1,hW1⟩:∃ W1,W1=(w.alloc (.cells #[.slice a zs.length ca,.slice c ys.length cc] 26)).drew:=⟨_,rfl⟩;have hb1:Below w.heap.size w W1:=by rw [hW1];exact ((Below.refl w.heap.size w).alloc zD _).drew
  have hG:Blk W1 w.heap.size #[.slice a zs.length ca,.slice c ys.length cc] 26:=by
   rw [hW1];exact Blk.new w #[.slice a zs.length ca,.slice c ys.length cc] 26
  have hCo:=Kd w.heap.size a c ca cc zs ys (by omega) (by omega) W1 hG (hp.below hb1) (hq.below hb1);generalize zs++ys=us at *;have HCo:=kz hCo;have HB1:=kz hb1;have HRt:=kz hRt;have HMe:=kz hmem;have HLe:=kz hlen;rw [hW1] at HCo;clear hp ha hsp hb0 hl hb1 hG hCo hRt hmem hlen hc0 hq hl';go_enter Tryz.func167,Tryz.ntmps167;go_wp2_with fail
  go_region_law (first
   | (go_simp;refine (oz HSo _).mono ?_;rintro e w2 ⟨rfl,rfl⟩)
   | (go_simp;refine (oz HCo).mono ?_;rintro e w2 ⟨v,rfl,hown,hb⟩;obtain ⟨av,cv,rfl,hrow,_,_⟩:=KO hown;have HRow:=kz hrow;have HBc:=kz hb;clear hown hrow hb)
   | (go_simp;refine (zam av cv us (by have:=oz HLe;omega) (oz HRt) _ (oz HRow)).mono ?_;rintro e w3 ⟨B',lo0,os,rfl,h1,h2,h3,h4,h5,h6⟩;have HE:=kz (yB h1 (yB h2 (yB h3 (yB h4 (yB h5 h6)))));clear h1 h2 h3 h4 h5 h6))
  all_goals
   rw [← hW1] at HBc;go_wp2;go_ret;obtain ⟨h1,h2,h3,h4,h5,h6⟩:=oz HE;have s1:=(oz HB1).size;have s2:=(oz HBc).size;have hle:=oz HLe;exact ⟨B',rfl,lo0,by omega,os,h2,h3,by omega,fun r =>by rw [h5 r,oz HMe r],(oz HB1).trans (((oz HBc).trans (h6.mono s2)).mono s1)⟩
theorem SetAt.empty {w:World} {B:Nat} (h:Blk w B #[.slice none 0 0,.slice none 0 0] 226):SetAt w B []:=⟨⟨none,0,none,0,h,fun h =>by simp at h,fun h =>by simp at h⟩,⟨fun x h =>by simp at h,fun i j x y _ h =>by simp at h⟩,by simp⟩
theorem zhv (p:Option Addr) (ys:List (Int × Int)) (w:World) (ht:SomeAt w p ys):Calls Tryz.prog 217 #[.pointer p] w fun e w' => ∃ C,e=.returned (.pointer (some ⟨C,0,none⟩))∧SetAt w' C ys∧Below w.heap.size w w':=by
 rcases ht with ⟨rfl,rfl⟩ | ⟨C,rfl,hC⟩
 ·exact (zak w).mono fun e w' ⟨h1,h2⟩ =>⟨_,h1,by rw [h2];exact SetAt.empty (Blk.new w _ _),by rw [h2];exact zl.alloc zD _⟩
 ·exact (zal C w).mono fun e w' ⟨h1,h2⟩ =>⟨_,h1,by rw [h2];exact hC,by rw [h2];exact zl⟩
theorem zfY (zs ys ns:List (Int × Int)) (h:∀ r,zi ns r=(zm r && !zi ys r)) (r:Int):(zi zs r && zi ns r)=(zi zs r && !zi ys r):=by
 rw [h r];cases hz:zi zs r with
 | false =>rfl
 | true =>rw [((zE _ _).1 hz).2];rfl
theorem zbf (B:Nat) (p:Option Addr) (zs ys:List (Int × Int)) (hz:zs.length≤5000) (hy:ys.length≤5000) (w:World) (hs:SetAt w B zs) (ht:SomeAt w p ys) :
  Calls Tryz.prog 168 #[.pointer (some ⟨B,0,none⟩),.pointer p] w fun e w' => ∃ (B' lo0:Nat) (us:List (Int × Int)),e=.returned (.pointer (some ⟨B',0,none⟩))∧w.heap.size≤lo0∧Made w' B' lo0 us∧Spread us∧us.length≤zs.length+ys.length+1∧(∀ r,zi us r=(zi zs r && !zi ys r))∧Below w.heap.size w w':=by
 have HS:=kz hs;have HSo:=kz (zhv p ys w ht);clear hs ht;go_enter Tryz.func168,Tryz.ntmps168;go_wp2_with fail
 refine (oz HSo).mono ?_;rintro e w1 ⟨C,rfl,hC,hb1⟩;have HC:=kz hC;have HB1:=kz hb1;have HS1:=kz ((oz HS).below hb1);clear hC hb1;go_wp2_with fail
 refine (zi9 C ys (by omega) w1 (oz HC)).mono ?_;rintro e w2 ⟨D,lo1,ns,rfl,h1,h2,h3,h4,h5,h6⟩;have HD:=kz (h2.set h3 (by omega));have HB2:=kz ((oz HB1).trans (h6.mono (oz HB1).size));have HS2:=kz ((oz HS1).below h6);have HN:=kz h5;have hnl:ns.length≤5001:=by omega
 have HNL:=kz h4;clear h1 h2 h3 h4 h5 h6;go_wp2_with fail
 refine (zhP B _ zs ns (by omega) (by omega) w2 (oz HS2) (.inr ⟨D,rfl,oz HD⟩)).mono ?_;rintro e w3 ⟨B',lo0,us,rfl,h1,h2,h3,h4,h5,h6⟩;have HE:=kz (yB h1 (yB h2 (yB h3 (yB h4 (yB h5 h6)))));clear h1 h2 h3 h4 h5 h6;go_wp2;go_ret;obtain ⟨h1,h2,h3,h4,h5,h6⟩:=oz HE;have s1:=(oz HB2).size;have hle:=oz HNL;exact ⟨B',lo0,us,rfl,by omega,h2,h3,by omega,fun r =>by rw [h5 r,zfY zs ys ns (oz HN) r],(oz HB2).trans (h6.mono s1)⟩
end Go.Proofs.YthchopdfmchpkaaGreat
