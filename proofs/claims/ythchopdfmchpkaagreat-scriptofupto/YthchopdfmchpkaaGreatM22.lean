/- Texts of this claim, one behind the other. -/
import Derived.Test.YthchopdfmchpkaaGreatM21
import Derived.Test.YthchopdfmchpkaaGreatTlJ
namespace Go.Proofs.YthchopdfmchpkaaGreat
set_option linter.unusedVariables false
section
open Go.RowKit Go.Shelf
set_option maxRecDepth 100000
set_option maxHeartbeats 8000000
theorem zdk (a b:Int) (w:World):Calls Tryz.prog 185 #[.int .i64 a,.int .i64 b] w fun e w' =>e=.returned (.bool (decide (a < b)))∧w'=w:=by
 have ha:(a != a)=false:=by simp
 go_enter Tryz.func185,Tryz.ntmps185;go_wp2_with go_in
 go_ret;exact ⟨rfl,rfl⟩
def JB (m:Nat) (F:Nat→Int) (k:Nat) (n:Int):Bool:=decide (k < m∧F k=n)
theorem zcl (p:Option Addr) (cap m:Nat) (F:Nat→Int) (hl:m≤1112064) (hr:∀ i j:Nat,i < j→j < m→F i < F j) (n:Int) (W:World) (hi:0 < m→∃ g o,p=some ⟨g,o,none⟩∧g < W.heap.size∧∀ j,j < m→W.cell? ⟨g,o+j,none⟩=some (.int .i64 (F j))) :
  Calls Tryz.prog 108 #[.slice p m cap,.int .i64 n] W fun e w' => ∃ k:Nat,e=.returned (.tuple #[.int .i64 k,.bool (JB m F k n)])∧k≤m∧(∀ j,j < k→F j < n)∧(∀ j,k≤j→j < m→n≤F j)∧Below W.heap.size W w':=by
 have HI:=kz hi;have HRS:=kz hr;clear hi hr;go_enter Tryz.func108,Tryz.ntmps108;go_wp2
 go_loop [7,8] (fun i j => ∃ a b:Nat,a≤b∧b≤m∧i=.int .i64 a∧j=.int .i64 b∧Hz (∀ j,j < a→F j < n)∧Hz (∀ j,b≤j→j < m→n≤F j)) (fun i j =>(intOf j).toNat - (intOf i).toNat)
 case atStart =>exact ⟨0,m,by omega,zD,rfl,rfl,kz (fun j hj =>by omega),kz (fun j h1 h2 =>by omega)⟩
 case round =>
  obtain ⟨a,b,hab,hb,rfl,rfl,H1,H2⟩:=hrel;by_cases hlt:a < b
  ·have h1:(a:Int) < (b:Int):=by omega
   obtain ⟨g,o,rfl,hg,hc⟩:=oz HI (by omega);have ck:=hc ((a+b) / 2) (by omega);have HM:Hz (∀ j,j < (a+b) / 2→F j < F ((a+b) / 2)):=kz (fun j hj =>oz HRS j _ hj (by omega));have HM2:Hz (∀ j,(a+b) / 2 < j→j < m→F ((a+b) / 2) < F j):=kz (fun j hj h2 =>oz HRS _ j hj h2);obtain ⟨x,hx⟩:∃ x,F ((a+b) / 2)=x:=⟨_,rfl⟩;rw [hx] at ck HM HM2;have HX:=kz hx;clear hx hc;by_cases hxn:x < n
   ·have hd:decide (x < n)=true:=JS hxn;go_wp2_with (go_at_call 185;refine (zdk _ _ _).mono ?_;rintro e w' ⟨rfl,rfl⟩)
    go_round
    case rel =>
     refine ⟨(a+b) / 2+1,b,by omega,hb, ?_,rfl,kz (fun j hj =>?_),H2⟩
     ·congr 1
     ·by_cases e:j=(a+b) / 2
      ·subst e;rw [oz HX];exact hxn
      ·have:=oz HM j (by omega);omega
    case measure =>simp [intOf];omega
   ·have hd:decide (x < n)=false:=Zq hxn;go_wp2_with (go_at_call 185;refine (zdk _ _ _).mono ?_;rintro e w' ⟨rfl,rfl⟩)
    go_round
    case rel =>
     refine ⟨a,(a+b) / 2,by omega,by omega,rfl, ?_,H1,kz (fun j hj h2 =>?_)⟩
     ·congr 1
     ·by_cases e:j=(a+b) / 2
      ·subst e;rw [oz HX];omega
      ·have:=oz HM2 j (by omega) h2;omega
    case measure =>simp [intOf];omega
  ·have h1:¬ (a:Int) < (b:Int):=by omega
   obtain rfl:a=b:=by omega
   by_cases hal:a < m
   ·obtain ⟨g,o,rfl,hg,hc⟩:=oz HI (by omega);have ck:=hc a hal;have h2:(a:Int) < (m:Int):=by omega
    have h3:((a:Nat):Int).toNat=a:=by omega
    obtain ⟨x,hx⟩:∃ x,F a=x:=⟨_,rfl⟩;rw [hx] at ck;have HX:=kz hx;clear hx hc;by_cases hxn:x=n
    ·subst hxn;have hxe:(x == x)=true:=by simp
     have HD:=kz (show JB m F a x=true from JS ⟨hal,oz HX⟩);go_wp2
     go_ret2
     exact ⟨a,by rw [oz HD];rfl,hb,oz H1,oz H2,zl⟩
    ·have hxe:(x == n)=false:=beq_eq_false_iff_ne.2 hxn;have hxx:(x != x)=false:=by simp
     have HD:=kz (show JB m F a n=false from Zq (fun h =>hxn ((oz HX).symm.trans h.2)));go_wp2_with go_in
     go_ret2
     exact ⟨a,by rw [oz HD];rfl,hb,oz H1,oz H2,zl⟩
   ·have h2:¬ (a:Int) < (m:Int):=by omega
    have HD:=kz (show JB m F a n=false from Zq (fun h =>hal h.1));go_wp2
    go_ret2
    exact ⟨a,by rw [oz HD];rfl,hb,oz H1,oz H2,zl⟩
theorem zch {zs:List (Int × Int)} (h:yO zs):∀ i j:Nat,i < j→j < zs.length→total (zs.take i) < total (zs.take j):=by
 intro i j hij
 induction j with
 | zero =>omega
 | succ j ih =>
  intro hj;obtain ⟨x,hx⟩:∃ x,zs[j]?=some x:=⟨_,qR (by omega)⟩;have hp:=h x (YH hx);have:=zaj hp.1 hp.2;rw [Yt hx,ZC];rcases Nat.lt_or_eq_of_le (show i≤j by omega) with a | a
  ·have:=ih a (by omega);omega
  ·subst a;omega
theorem zei {zs:List (Int × Int)} (hR:yO zs) {n:Int} (h0:0≤n) (h1:n < total zs) {k:Nat} (hk:k≤zs.length) (ha:∀ j,j < k→total (zs.take j) < n) (hb:∀ j,k≤j→j < zs.length→n≤total (zs.take j)) :
  ∃ (i:Nat) (x:Int × Int),(if JB zs.length (fun j =>total (zs.take j)) k n then i=k else i+1=k)∧zs[i]?=some x∧total (zs.take i)≤n∧n < total (zs.take i)+zS x:=by
 by_cases c:k < zs.length∧total (zs.take k)=n
 ·obtain ⟨x,hx⟩:∃ x,zs[k]?=some x:=⟨_,qR c.1⟩;have hp:=hR x (YH hx);have:=zaj hp.1 hp.2;exact ⟨k,x,by rw [show JB zs.length (fun j =>total (zs.take j)) k n=true from JS c];simp,hx,by omega,by omega⟩
 ·cases k with
  | zero =>
   exfalso
   by_cases l:0 < zs.length
   ·have:=hb 0 zD l;simp only [List.take_zero,total] at this;exact c ⟨l,by simp only [List.take_zero,total];omega⟩
   ·have:zs=[]:=List.eq_nil_of_length_eq_zero (by omega);subst this;simp [total] at h1;omega
  | succ i =>
   obtain ⟨x,hx⟩:∃ x,zs[i]?=some x:=⟨_,qR (by omega)⟩;have ht:total (zs.take (i+1))=total (zs.take i)+zS x:=by rw [Yt hx,ZC]
   refine ⟨i,x,by rw [show JB zs.length (fun j =>total (zs.take j)) (i+1) n=false from Zq c];simp,hx,by have:=ha i (by omega);omega, ?_⟩;by_cases l:i+1 < zs.length
   ·have:=hb (i+1) zD l;have:total (zs.take (i+1))≠n:=fun e =>c ⟨l,e⟩
    omega
   ·have:zs.take (i+1)=zs:=List.take_of_length_le (by omega);rw [this] at ht;omega
theorem zkH (B:Nat) (zs:List (Int × Int)) (n:Int) (h0:0≤n) (h1:n < total zs) (w:World) (hs:SetAt w B zs) :
  Calls Tryz.prog 232 #[.pointer (some ⟨B,0,none⟩),.int .i64 n] w fun e w' =>e=.returned (.tuple #[.int .i32 (jT zs n),.bool true])∧Below w.heap.size w w':=by
 have HS:=kz hs;have HZ:=kz (Z2 B zs w hs);have htb:=(X7 hs.spread.ends).2;have hlen:=hs.len;have htt:total zs≤1236686340096:=by omega
 have hge:¬ total zs≤n:=by omega
 have HT:=kz h1;generalize htg:total zs=tot at *;have HTG:=kz htg;clear hs htb hlen htg;go_enter Tryz.func232,Tryz.ntmps232;go_wp2_with fail
 refine (oz HZ).mono ?_;rintro e w1 ⟨rfl,hb1⟩;have HB1:=kz hb1;have HS1:=kz ((oz HS).below hb1);clear hb1;obtain ⟨⟨a,ca,b,cb,hb0,hp,ha⟩,hsp,hl⟩:=oz HS1;have d0:=hb0.cell 0;have d1:=hb0.cell 1;have HQ:=kz (zcl b cb zs.length (fun j =>total (zs.take j)) hl (zch hsp.ends) n w1 ha);have HBk:=kz hb0;have HP:=kz hp;have HA:=kz ha;have HSp:=kz hsp;clear hb0 hp ha hsp;go_wp2_with fail
 refine (oz HQ).mono ?_;rintro e w2 ⟨k,rfl,hk,hka,hkb,hb2⟩;obtain ⟨i,x,hif,hx,hx1,hx2⟩:=zei (oz HSp).ends h0 (by rw [oz HTG];exact h1) hk hka hkb;have HB2:=kz ((oz HB1).trans (hb2.mono (oz HB1).size));have hbk:=(oz HBk).below hb2 (oz HBk).lt;have e0:=hbk.cell 0;have e1:=hbk.cell 1;have hil:=(Ze.1 hx).1;obtain ⟨g,o,rfl,hg,hc⟩:=((oz HP).below hb2) (by omega);obtain ⟨g',o',rfl,hg',hc'⟩:=((oz HA).below hb2) (by omega);have c0:=(hc i x hx).1;have c2:=hc' i hil;have HV:=kz (zeP zs i x n (oz HSp).ends hx hx1 hx2);have hex:=zr ((oz HSp).ends x (YH hx)).1;have r1:=zH hex.1.1 hex.1.2.1;have r2:=zH hex.2.1 hex.2.2.1;have hss:zS x=zf x.2+1 - zf x.1:=rfl;have htk:0≤total (zs.take i):=YJ (oz HSp).ends i;have hlo:0≤x.1∧x.1≤1114111:=⟨hex.1.1,hex.1.2.1⟩;rw [hss] at hx2;generalize hdc:JB zs.length (fun j =>total (zs.take j)) k n=dc at hif ⊢;clear hdc hka hkb;generalize total (zs.take i)=tk at *;obtain ⟨lo,hi⟩:=x;simp only at c0 hx2 HV r1 r2 hlo;have hi1:(i:Int) < (zs.length:Int):=by omega
 have hi2:((i:Nat):Int).toNat=i:=by omega
 clear hb2 hbk hc hc' hx hss HQ HS HS1 HA HP HBk HZ hex;cases dc with
 | true =>
  simp at hif;subst hif;go_wp2
  go_quiet (first | (go_at_call 228;exact Calls.quiet_of_same (Yg _ (by omega) (by omega) _)) | (go_at_call 241;exact Calls.quiet_of_same (ZH _ (by omega) (by omega) _)))
  go_wp2
  go_ret2
  exact ⟨by rw [oz HV,show zf lo+(n - tk)=zf lo+n - tk by omega];rfl,yX (oz HB2) _⟩
 | false =>
  simp at hif;subst hif;have hi3:((i+1:Nat):Int) - 1=(i:Int):=by omega
  go_wp2
  go_quiet (first | (go_at_call 228;exact Calls.quiet_of_same (Yg _ (by omega) (by omega) _)) | (go_at_call 241;exact Calls.quiet_of_same (ZH _ (by omega) (by omega) _)))
  go_wp2
  go_ret2
  exact ⟨by rw [oz HV,show zf lo+(n - tk)=zf lo+n - tk by omega];rfl,yX (oz HB2) _⟩
theorem zks (B:Nat) (zs:List (Int × Int)) (n:Int) (h:n < 0∨total zs≤n) (w:World) (hs:SetAt w B zs) :
  Calls Tryz.prog 232 #[.pointer (some ⟨B,0,none⟩),.int .i64 n] w fun e w' =>e=.returned (.tuple #[.int .i32 0,.bool false])∧Below w.heap.size w w':=by
 have HZ:=kz (Z2 B zs w hs);by_cases h0:n < 0
 ·go_enter Tryz.func232,Tryz.ntmps232;go_wp2
  go_ret2
  exact ⟨rfl,zl⟩
 ·have h1:total zs≤n:=by omega
  generalize total zs=tot at *;clear hs h;go_enter Tryz.func232,Tryz.ntmps232;go_wp2_with fail
  refine (oz HZ).mono ?_;rintro e w1 ⟨rfl,hb1⟩;have HB1:=kz hb1;clear hb1;go_wp2
  go_ret2
  exact ⟨rfl,oz HB1⟩
def zdw (zs:List (Int × Int)) (n:Int):Value:=if 0≤n∧n < total zs then .tuple #[.int .i32 (jT zs n),.bool true] else .tuple #[.int .i32 0,.bool false]
theorem ziB (B:Nat) (zs:List (Int × Int)) (n:Int) (w:World) (hs:SetAt w B zs) :
  Calls Tryz.prog 232 #[.pointer (some ⟨B,0,none⟩),.int .i64 n] w fun e w' =>e=.returned (zdw zs n)∧Below w.heap.size w w':=by
 unfold zdw;by_cases h:0≤n∧n < total zs
 ·rw [if_pos h];exact zkH B zs n h.1 h.2 w hs
 ·rw [if_neg h];exact zks B zs n (by omega) w hs
theorem Kh (B:Nat) (zs:List (Int × Int)) (r:Int) (h0 : -2147483648≤r) (h1:r≤2147483647) (w:World) (hs:SetAt w B zs) :
  Calls Tryz.prog 231 #[.pointer (some ⟨B,0,none⟩),.int .i32 r] w fun e w' =>e=.returned (.int .i64 (zC zs r))∧Below w.heap.size w w' :=
 (zbt B zs r h0 h1 w hs).mono fun e w' ⟨k,he,hc,hb⟩ =>⟨by rw [he,QS zs r k hs.spread hc],hb⟩
theorem Z0:∀ (zs:List (Int × Int)) (r:Int),yO zs→-2147483648≤r→r≤2147483647→-(4294967296*zs.length)≤zC zs r∧zC zs r≤4294967296*zs.length
 | [],r,_,_,_ =>by simp [zC]
 | x::zs,r,hR,h0,h1 =>by
  have ih:=Z0 zs r (fun z hz =>hR z (List.mem_cons_of_mem _ hz)) h0 h1;have he:=zr (hR x List.mem_cons_self).1;have a:=zH he.1.1 he.1.2.1;have b:=zH he.2.1 he.2.2.1;have c : -2147483648≤zf r∧zf r≤2147483647:=by unfold zf;split <;> (try split) <;> omega
  simp only [List.length_cons];show _≤(if x.1 < r then _ else 0)+zC zs r∧(if x.1 < r then _ else 0)+zC zs r≤_;split <;> omega
theorem zjb (B:Nat) (zs:List (Int × Int)) (r:Int) (hm:zi zs r=true) (h0 : -2147483648≤r) (h1:r≤2147483647) (w:World) (hs:SetAt w B zs) :
  Calls Tryz.prog 221 #[.pointer (some ⟨B,0,none⟩),.int .i32 r] w fun e w' =>e=.returned (zdw zs (zC zs r+1))∧Below w.heap.size w w':=by
 have HS:=kz hs;have hbd:=Z0 zs r hs.spread.ends h0 h1;have hl:=hs.len;have HQ:=kz (Kh B zs r h0 h1 w hs);have HI:=kz (fun w hs =>zce B zs r w hs);rw [hm] at HI;obtain ⟨bo,hbo⟩:∃ bo,zC zs r=bo:=⟨_,rfl⟩;rw [hbo] at hbd HQ ⊢;have hbb : -9000000000000000≤bo∧bo≤9000000000000000:=by omega
 obtain ⟨t,d,ht⟩:∃ t d,zdw zs (bo+1)=.tuple #[.int .i32 t,.bool d]:=by
  unfold zdw;split <;> exact ⟨_,_,rfl⟩
 have HA:=kz (fun w hs =>ziB B zs (bo+1) w hs);rw [ht] at HA ⊢;clear hs hbd hl hm hbo ht;go_enter Tryz.func221,Tryz.ntmps221;go_wp2_with fail
 refine (oz HQ).mono ?_;rintro e w1 ⟨rfl,hb1⟩;have HB1:=kz hb1;have HS1:=kz ((oz HS).below hb1);clear hb1;go_wp2_with fail
 refine (oz HI w1 (oz HS1)).mono ?_;rintro e w2 ⟨rfl,hb2⟩;have HB2:=kz ((oz HB1).trans (hb2.mono (oz HB1).size));have HS2:=kz ((oz HS1).below hb2);clear hb2;go_wp2_with fail
 refine (oz HA w2 (oz HS2)).mono ?_;rintro e w3 ⟨rfl,hb3⟩;have HB3:=kz ((oz HB2).trans (hb3.mono (oz HB2).size));clear hb3;go_wp2
 go_ret2
 exact ⟨rfl,oz HB3⟩
theorem zhJ (B:Nat) (zs:List (Int × Int)) (r:Int) (hm:zi zs r=false) (h0 : -2147483648≤r) (h1:r≤2147483647) (w:World) (hs:SetAt w B zs) :
  Calls Tryz.prog 221 #[.pointer (some ⟨B,0,none⟩),.int .i32 r] w fun e w' =>e=.returned (zdw zs (zC zs r))∧Below w.heap.size w w':=by
 have HS:=kz hs;have hbd:=Z0 zs r hs.spread.ends h0 h1;have hl:=hs.len;have HQ:=kz (Kh B zs r h0 h1 w hs);have HI:=kz (fun w hs =>zce B zs r w hs);rw [hm] at HI;obtain ⟨bo,hbo⟩:∃ bo,zC zs r=bo:=⟨_,rfl⟩;rw [hbo] at hbd HQ ⊢;have hbb : -9000000000000000≤bo∧bo≤9000000000000000:=by omega
 obtain ⟨t,d,ht⟩:∃ t d,zdw zs (bo)=.tuple #[.int .i32 t,.bool d]:=by
  unfold zdw;split <;> exact ⟨_,_,rfl⟩
 have HA:=kz (fun w hs =>ziB B zs (bo) w hs);rw [ht] at HA ⊢;clear hs hbd hl hm hbo ht;go_enter Tryz.func221,Tryz.ntmps221;go_wp2_with fail
 refine (oz HQ).mono ?_;rintro e w1 ⟨rfl,hb1⟩;have HB1:=kz hb1;have HS1:=kz ((oz HS).below hb1);clear hb1;go_wp2_with fail
 refine (oz HI w1 (oz HS1)).mono ?_;rintro e w2 ⟨rfl,hb2⟩;have HB2:=kz ((oz HB1).trans (hb2.mono (oz HB1).size));have HS2:=kz ((oz HS1).below hb2);clear hb2;go_wp2_with fail
 refine (oz HA w2 (oz HS2)).mono ?_;rintro e w3 ⟨rfl,hb3⟩;have HB3:=kz ((oz HB2).trans (hb3.mono (oz HB2).size));clear hb3;go_wp2
 go_ret2
 exact ⟨rfl,oz HB3⟩
def zaZ (b:Bool):Int:=if b then 1 else 0
def Zg (x:Int × Int) (r:Int):Int:=if x.1 < r then min (zf r) (zf x.2+1) - zf x.1 else 0
theorem ZA (x:Int × Int) (zs:List (Int × Int)) (r:Int):zC (x::zs) r=Zg x r+zC zs r:=rfl
theorem zfP (r:Int):zf (r+1)=zf r+(if r < 55296∨57343 < r then 1 else 0):=by
 unfold zf;repeat' split
 all_goals omega
theorem zc9 {a b:Int} (h:a≤b):zf a≤zf b:=by
 unfold zf;repeat' split
 all_goals omega
theorem KA {x:Int × Int} (he:yF x=true) (hx:x.1≤x.2) (r:Int):Zg x (r+1)=Zg x r+zaZ (decide (x.1≤r∧r≤x.2) && zm r):=by
 have e:=zr he;have hs:=zfP r;unfold Zg zaZ;by_cases h1:x.1 < r
 ·rw [if_pos h1,if_pos (by omega)];by_cases h2:r≤x.2
  ·have m1:=zc9 h2;by_cases h3:r < 55296∨57343 < r
   ·rw [if_pos h3] at hs;have hb:(decide (x.1≤r∧r≤x.2) && zm r)=true:=by unfold zm;simp;omega
    rw [hb];simp only [if_true];omega
   ·rw [if_neg h3] at hs;have hb:(decide (x.1≤r∧r≤x.2) && zm r)=false:=by unfold zm;simp;omega
    rw [hb];simp only [Bool.false_eq_true,if_false];omega
  ·have m1:=Xp (a:=x.2) (b:=r) (by omega) (by omega);have m2:=Xp (a:=x.2) (b:=r+1) (by omega) (by omega);have hb:(decide (x.1≤r∧r≤x.2) && zm r)=false:=by simp;omega
   rw [hb];simp only [Bool.false_eq_true,if_false];omega
 ·rw [if_neg h1];by_cases h2:x.1=r
  ·subst h2;rw [if_pos (by omega)];rw [if_pos (by omega)] at hs;have hb:(decide (x.1≤x.1∧x.1≤x.2) && zm x.1)=true:=by unfold zm;simp;omega
   rw [hb];have m1:=zc9 hx;simp only [if_true];omega
  ·rw [if_neg (by omega)];have hb:(decide (x.1≤r∧r≤x.2) && zm r)=false:=by simp;omega
   rw [hb];simp
theorem Zz:∀ (zs:List (Int × Int)) (r:Int),Spread zs→zC zs (r+1)=zC zs r+zaZ (zi zs r)
 | [],r,_ =>by simp [zC,zi,zaZ]
 | x::zs,r,h =>by
  have he:=h.ends x List.mem_cons_self;have hs:=KA he.1 he.2 r;have ht:=Zz zs r h.tail;rw [ZA,ZA,hs,ht];have hc:zi (x::zs) r=((decide (x.1≤r∧r≤x.2) && zm r) || zi zs r):=by
   unfold zi;simp only [List.any_cons,Bool.and_or_distrib_right]
  rw [hc];by_cases hd:(decide (x.1≤r∧r≤x.2) && zm r)=true
  ·have hz:zi zs r=false:=by
    rw [← Bool.not_eq_true];intro hm;obtain ⟨⟨y,hy,p,q⟩,_⟩:=(zE _ _).1 hm;have:=h.head_lt hy;simp at hd;omega
   rw [hd,hz];simp [zaZ];omega
  ·rw [Bool.not_eq_true] at hd;rw [hd,Bool.false_or];simp [zaZ];omega
theorem Ki:∀ (zs:List (Int × Int)),Spread zs→zC zs 1114112=total zs
 | [],_ =>rfl
 | x::zs,h =>by
  have he:=h.ends x List.mem_cons_self;have e:=zr he.1;have m1:=Xp (a:=x.2) (b:=1114112) (by omega) (by omega);rw [ZA,Xk,Ki zs h.tail];unfold Zg zS;rw [if_pos (by omega)];omega
theorem zdH {zs:List (Int × Int)} (h:Spread zs):(total zs == 0)=decide (zs=[]):=by
 cases zs with
 | nil =>rfl
 | cons x zs =>
  have he:=h.ends x List.mem_cons_self;have p:=zaj he.1 he.2;have q:=(X7 h.tail.ends).1;have:total (x::zs)≠0:=by rw [Xk];omega
  simp [this]
theorem J5:∀ (zs:List (Int × Int)) (r:Int),yO zs→0≤zC zs r
 | [],r,_ =>by simp [zC]
 | x::zs,r,hR =>by
  have ih:=J5 zs r (fun z hz =>hR z (List.mem_cons_of_mem _ hz));have hx:=hR x List.mem_cons_self;have he:=zr hx.1;have hrk:=(qE he.1.2.2 he.2.2.2).2 hx.2;show 0≤(if x.1 < r then _ else 0)+zC zs r;split
  ·rename_i h
   have:=Xp he.1.2.2 h;omega
  ·omega
end
section
open Go.RowKit Go.Shelf Go.Maps
set_option maxRecDepth 100000
set_option maxHeartbeats 8000000
theorem zfS (b:Bool):0≤zaZ b:=by cases b <;> decide
theorem zag {zs:List (Int × Int)} (h:Spread zs) (a:Int):∀ n:Nat,zC zs a≤zC zs (a+n)
 | 0 =>by simp
 | n+1 =>by
  have h1:=zag h a n;have h2:=Zz zs (a+n) h;have h3:=zfS (zi zs (a+n));rw [show a+((n+1:Nat):Int)=a+n+1 by omega,h2];omega
theorem Qu {zs:List (Int × Int)} (h:Spread zs) {a b:Int} (hab:a≤b):zC zs a≤zC zs b:=by
 have:=zag h a (b - a).toNat
 rwa [show a+((b - a).toNat:Int)=b by omega] at this
theorem zcM {zs:List (Int × Int)} (h:Spread zs) (r hi:Int) (hr:zi zs r=false):(decide (0≤zC zs r∧zC zs r < total zs) && decide (jT zs (zC zs r)≤hi))=true ↔ ∃ t,zi zs t=true∧r≤t∧t≤hi:=by
 have h0:=J5 zs r h.ends;constructor
 ·intro hq;rw [Bool.and_eq_true,decide_eq_true_eq,decide_eq_true_eq] at hq;obtain ⟨⟨_,h1⟩,h2⟩:=hq;obtain ⟨m1,m2,m3,_⟩:=ze9 h h0 h1;refine ⟨_,m1, ?_,h2⟩;rcases Int.lt_or_le (jT zs (zC zs r)) r with c | c
  ·have:=Qu h (show jT zs (zC zs r)+1≤r by omega);omega
  ·exact c
 ·rintro ⟨t,m,ht,hth⟩;have hs:zC zs (t+1)=zC zs t+1:=by rw [Zz zs t h,m];rfl
  have h1:=Qu h ht;have hlt:zC zs r < total zs:=by
   have h2:=Ki zs h;have h3:t≤1114111:=(yL ((zE zs t).1 m).2).2.1;have h4:=Qu h (show t+1≤1114112 by omega);omega
  rw [Bool.and_eq_true,decide_eq_true_eq,decide_eq_true_eq];refine ⟨⟨h0,hlt⟩, ?_⟩;obtain ⟨m1,m2,m3,_⟩:=ze9 h h0 hlt;rcases Int.lt_or_le t (jT zs (zC zs r)) with c | c
  ·have:=Qu h (show t+1≤jT zs (zC zs r) by omega);omega
  ·omega
theorem zdv (zs:List (Int × Int)) (n:Int):∃ v ok,zdw zs n=.tuple #[.int .i32 v,.bool ok]∧ok=decide (0≤n∧n < total zs)∧(ok=true→v=jT zs n):=by
 unfold zdw;by_cases h:0≤n∧n < total zs
 ·rw [if_pos h];exact ⟨_,_,rfl,by simp [h],fun _ =>rfl⟩
 ·rw [if_neg h];exact ⟨_,_,rfl,by simp [h],fun q =>by cases q⟩
theorem JF {l:List (Int × Int)} (hl:l.length≤1000000) (C:Nat) (x1 x2:Int) (h1:R32 x1) (hx:x1≤x2) (q:Bool) (hq:q=true ↔ ∃ t,zi l t=true∧x1≤t∧t≤x2) (w:World) (h:SetV w l C) :
  Calls Tryz.prog 177 #[.pointer (some ⟨C,0,none⟩),.agg #[.int .i32 x1,.int .i32 x2]] w fun e w' =>e=.returned (.int .i64 (if q then 5 else 0))∧Below w.heap.size w w':=by
 have hB:Below w.heap.size w (w.alloc (.cells #[.int .i32 x1,.int .i32 x2] 94)):=(Below.refl _ w).alloc zD _;have bX:=Blk.new w #[.int .i32 x1,.int .i32 x2] 94;have hV:=h.below hB;obtain ⟨zs,lo0,m1,m2,m3,m4⟩:=hV;have hA:=m1.set m2 (by omega);have HI:=kz (fun w1 (hb:Below (w.alloc (.cells #[.int .i32 x1,.int .i32 x2] 94)).heap.size (w.alloc (.cells #[.int .i32 x1,.int .i32 x2] 94)) w1) =>zce C zs x1 w1 ((m1.below hb).set m2 (by omega)));have HX:=kz (fun w1 (hb:Below (w.alloc (.cells #[.int .i32 x1,.int .i32 x2] 94)).heap.size (w.alloc (.cells #[.int .i32 x1,.int .i32 x2] 94)) w1) =>bX.below hb bX.lt);have q0:=bX.cell 0;have HB:=kz hB;have hq2:q=true ↔ ∃ t,zi zs t=true∧x1≤t∧t≤x2:=by
  rw [hq];constructor
  ·rintro ⟨t,a,b⟩;exact ⟨t,by rw [m4];exact a,b⟩
  ·rintro ⟨t,a,b⟩;exact ⟨t,by rw [← m4];exact a,b⟩
 cases hm:zi zs x1 with
 | true =>
  obtain rfl:q=true:=hq2.2 ⟨x1,hm,Int.le_refl _,hx⟩;have HN:=kz (zjb C zs x1 hm h1.1 h1.2 _ hA);obtain ⟨v,ok,ev,_⟩:=zdv zs (zC zs x1+1);rw [ev] at HN;rw [hm] at HI;clear hB bX h m1 m2 m3 m4 hA hq hq2 hm ev h1 hx;go_enter Tryz.func177,Tryz.ntmps177;go_wp2_with fail
  refine (oz HN).mono ?_;rintro e w1 ⟨rfl,hb⟩;have HB1:=kz hb;have p0:=(oz HX w1 hb).cell 0;clear hb HN q0;go_wp2_with fail
  refine (oz HI w1 (oz HB1)).mono ?_;rintro e w2 ⟨rfl,hb⟩;have HB2:=kz ((oz HB).trans (((oz HB1).trans (hb.mono (oz HB1).size)).mono (oz HB).size));clear hb HI p0 HX;go_wp2_with fail
  refine (zK true 5 w2).mono ?_;rintro e w3 ⟨rfl,hw⟩;rw [hw];clear hw;go_wp2_with fail
  go_ret;exact ⟨rfl,oz HB2⟩
 | false =>
  have HN:=kz (zhJ C zs x1 hm h1.1 h1.2 _ hA);have hfa:=zcM m2 x1 x2 hm;obtain ⟨v,ok,ev,e1,e2⟩:=zdv zs (zC zs x1);rw [ev] at HN;rw [hm] at HI;have HQ:Hz ((ok && decide (v≤x2))=q):=kz (by
   rw [Bool.eq_iff_iff,hq2, ← hfa, ← e1];cases ok with
   | false =>simp
   | true =>rw [e2 rfl])
  clear hB bX h m1 m2 m3 m4 hA hq hq2 hm ev h1 hx e1 e2 hfa;cases ok with
  | false =>
   obtain rfl:q=false:=(oz HQ).symm;go_enter Tryz.func177,Tryz.ntmps177;go_wp2_with fail
   refine (oz HN).mono ?_;rintro e w1 ⟨rfl,hb⟩;have HB1:=kz hb;have p0:=(oz HX w1 hb).cell 0;clear hb HN q0;go_wp2_with fail
   refine (oz HI w1 (oz HB1)).mono ?_;rintro e w2 ⟨rfl,hb⟩;have HB2:=kz ((oz HB).trans (((oz HB1).trans (hb.mono (oz HB1).size)).mono (oz HB).size));clear hb HI p0 HX;go_wp2_with fail
   refine (zK false 5 w2).mono ?_;rintro e w3 ⟨rfl,hw⟩;rw [hw];clear hw;go_wp2_with fail
   go_ret;exact ⟨rfl,oz HB2⟩
  | true =>
   have HQ2:Hz (decide (v≤x2)=q):=kz (by have:=oz HQ;rwa [Bool.true_and] at this);go_enter Tryz.func177,Tryz.ntmps177;go_wp2_with fail
   refine (oz HN).mono ?_;rintro e w1 ⟨rfl,hb⟩;have HB1:=kz hb;have p0:=(oz HX w1 hb).cell 0;clear hb HN q0;go_wp2_with fail
   refine (oz HI w1 (oz HB1)).mono ?_;rintro e w2 ⟨rfl,hb⟩;have p1:=(oz HX w2 ((oz HB1).trans (hb.mono (oz HB1).size))).cell 1;have HB2:=kz ((oz HB).trans (((oz HB1).trans (hb.mono (oz HB1).size)).mono (oz HB).size));clear hb HI p0 HX HQ;go_wp2_with fail
   refine (zK (decide (v≤x2)) 5 w2).mono ?_;rw [oz HQ2];rintro e w3 ⟨rfl,hw⟩;rw [hw];clear hw;cases q
   all_goals
    go_wp2_with fail
    go_ret;exact ⟨rfl,oz HB2⟩
theorem zja {zs:List (Int × Int)} (h:Spread zs):zs=[] ↔ ∀ r,zi zs r=false:=by
 constructor
 ·rintro rfl r;rfl
 ·intro hr;cases zs with
  | nil =>rfl
  | cons x zs =>
   have:=(zh2 h).1;rw [hr] at this;cases this
theorem Q6 {lm lh:List (Int × Int)} (hm:lm.length≤1024) (hh:lh.length≤1024) (list:Int) (Ch Cm:Nat) (q:Bool) (hq:q=true ↔ ∀ r,zi lm r=true→zi lh r=true) (w:World) (h1:SetV w lh Ch) (h2:SetV w lm Cm) :
  Calls Tryz.prog 169 #[.int .i64 list,.pointer (some ⟨Ch,0,none⟩),.pointer (some ⟨Cm,0,none⟩)] w fun e w' =>e=.returned (wrV (if q then (0,0,0) else (5,list,0)))∧Below w.heap.size w w':=by
 have hB:Below w.heap.size w (w.alloc (.cells #[.int .i64 0,.int .i64 0,.int .i64 0] 89)):=(Below.refl _ w).alloc zD _;have bR:=Blk.new w #[.int .i64 0,.int .i64 0,.int .i64 0] 89;obtain ⟨ys,lo1,a1,a2,a3,a4⟩:=h1.below hB;obtain ⟨zs,lo2,b1,b2,b3,b4⟩:=h2.below hB;have HM:=kz (zbf Cm (some ⟨Ch,0,none⟩) zs ys (by omega) (by omega) _ (b1.set b2 (by omega)) (.inr ⟨Ch,rfl,a1.set a2 (by omega)⟩));have HB:=kz (yB hB bR);have HQ:Hz (∀ us,Spread us→(∀ r,zi us r=(zi zs r && !zi ys r))→(total us == 0)=q):=kz (fun us hs hr =>by
  rw [zdH hs,Bool.eq_iff_iff,decide_eq_true_eq,zja hs,hq];constructor
  ·intro h r hl;have:=h r;rw [hr,b4,hl,Bool.true_and,a4] at this;simpa using this
  ·intro h r;rw [hr,b4,a4];cases hl:zi lm r with
   | false =>rfl
   | true =>rw [h r hl];rfl)
 have HL:=kz (yB a3 b3);clear hB bR h1 h2 a1 a2 a3 a4 b1 b2 b3 b4 hq;go_enter Tryz.func169,Tryz.ntmps169;go_wp2_with fail
 refine (oz HM).mono ?_;rintro e w1 ⟨B',lo0,us,rfl,_,u1,u2,u3,u4,hb⟩;have HU:=kz (Z2 B' us w1 (u1.set u2 (by have:=oz HL;omega)));have HT:=kz (oz HQ us u2 u4);have HB1:=kz (yB ((oz HB).1.trans (hb.mono (oz HB).1.size)) ((oz HB).2.below hb (oz HB).2.lt));clear u1 u2 u3 u4 hb HM HB HQ HL;generalize total us=tt at *;go_wp2_with fail
 refine (oz HU).mono ?_;rintro e w2 ⟨rfl,hb⟩;have HB2:=kz (yB ((oz HB1).1.trans (hb.mono (oz HB1).1.size)) ((oz HB1).2.below hb (oz HB1).2.lt));clear hb HU HB1;have r0:=(oz HB2).2.cell 0;have r1:=(oz HB2).2.cell 1;have r2:=(oz HB2).2.cell 2;have f0:=(oz HB2).2.frozen 0;have f1:=(oz HB2).2.frozen 1;have f2:=(oz HB2).2.frozen 2;cases q with
 | true =>
  obtain rfl:tt=0:=by simpa using oz HT
  go_wp2_with fail
  exact XS (v:=wrV (0,0,0)) (jA Tryz.results169 rfl (jG (oz HB2).2 _ _ _) rfl) rfl ⟨rfl,zY (oz HB2).1 zD (oz HB2).1.size _ _ _⟩
 | false =>
  have t0:¬ tt=0:=by simpa using oz HT
  have t1:(tt == 0)=false:=oz HT;go_wp2_with fail
  exact XS (v:=wrV (5,list,0)) (jA Tryz.results169 rfl (jG (oz HB2).2 _ _ _) rfl) rfl ⟨rfl,zY (oz HB2).1 zD (oz HB2).1.size _ _ _⟩
structure StP (w:World) (BX C:Nat) (l:List (Int × Int)):Prop where
 bx:Blk w BX #[.pointer (some ⟨C,0,none⟩)] 147
 st:SetV w l C
theorem StP.below {w w':World} {BX C:Nat} {l:List (Int × Int)} (h:StP w BX C l) (hb:Below w.heap.size w w'):StP w' BX C l:=⟨h.bx.below hb h.bx.lt,h.st.below hb⟩
theorem zey {l:List (Int × Int)} (hl:l.length≤1000000) (BX C:Nat) (x1 x2:Int) (w:World) (h:StP w BX C l) :
  Calls Tryz.prog 170 #[.agg #[.int .i32 x1,.int .i64 x2],.pointer (some ⟨BX,0,none⟩)] w fun e w' =>e=.returned (.int .i64 (if zi l x1 then 5 else 0))∧Below w.heap.size w w':=by
 have hB1:Below w.heap.size w (w.alloc (.cells #[.int .i32 x1,.int .i64 x2] 98)):=(Below.refl _ w).alloc zD _;have b0:=(h.below hB1).bx.cell 0;have hB2:Below w.heap.size w ((w.alloc (.cells #[.int .i32 x1,.int .i64 x2] 98)).alloc (.cells #[.int .i32 x1] 21)):=hB1.alloc (by simp) _;have hv:[x1].any (zi l)=zi l x1:=by simp
 have HD:=kz (Yw hl C [x1] (by simp) (some ⟨w.heap.size+1,0,none⟩) 1 ((w.alloc (.cells #[.int .i32 x1,.int .i64 x2] 98)).alloc (.cells #[.int .i32 x1] 21)) (h.below hB2).st (Zl (w.alloc (.cells #[.int .i32 x1,.int .i64 x2] 98)) (w.heap.size+1) x1 21 (by simp)));rw [hv] at HD;have HB:=kz hB2;clear hB1 hB2 h hv;generalize zi l x1=bb at *;go_enter Tryz.func170,Tryz.ntmps170;go_wp2_with fail
 refine (oz HD).mono ?_;rintro e w2 ⟨rfl,hb⟩;have HB2:=kz ((oz HB).trans (hb.mono (oz HB).size));clear hb HB HD;cases bb
 all_goals
  go_wp2_with fail
  go_ret;exact ⟨rfl,oz HB2⟩
theorem zex {l:List (Int × Int)} (hl:l.length≤1000000) (BX C:Nat) (x1 x2 x3:Int) (w:World) (h:StP w BX C l) :
  Calls Tryz.prog 172 #[.agg #[.int .i32 x1,.int .i32 x2,.int .i32 x3],.pointer (some ⟨BX,0,none⟩)] w fun e w' =>e=.returned (.int .i64 (if zi l x1 then 5 else 0))∧Below w.heap.size w w':=by
 have hB1:Below w.heap.size w (w.alloc (.cells #[.int .i32 x1,.int .i32 x2,.int .i32 x3] 100)):=(Below.refl _ w).alloc zD _;have b0:=(h.below hB1).bx.cell 0;have hB2:Below w.heap.size w ((w.alloc (.cells #[.int .i32 x1,.int .i32 x2,.int .i32 x3] 100)).alloc (.cells #[.int .i32 x1] 21)):=hB1.alloc (by simp) _;have hv:[x1].any (zi l)=zi l x1:=by simp
 have HD:=kz (Yw hl C [x1] (by simp) (some ⟨w.heap.size+1,0,none⟩) 1 ((w.alloc (.cells #[.int .i32 x1,.int .i32 x2,.int .i32 x3] 100)).alloc (.cells #[.int .i32 x1] 21)) (h.below hB2).st (Zl (w.alloc (.cells #[.int .i32 x1,.int .i32 x2,.int .i32 x3] 100)) (w.heap.size+1) x1 21 (by simp)));rw [hv] at HD;have HB:=kz hB2;clear hB1 hB2 h hv;generalize zi l x1=bb at *;go_enter Tryz.func172,Tryz.ntmps172;go_wp2_with fail
 refine (oz HD).mono ?_;rintro e w2 ⟨rfl,hb⟩;have HB2:=kz ((oz HB).trans (hb.mono (oz HB).size));clear hb HB HD;cases bb
 all_goals
  go_wp2_with fail
  go_ret;exact ⟨rfl,oz HB2⟩
theorem zeu {l:List (Int × Int)} (hl:l.length≤1000000) (BX C:Nat) (x1 x2:Int) (h1:R32 x1) (hx:x1≤x2) (q:Bool) (hq:q=true ↔ ∃ t,zi l t=true∧x1≤t∧t≤x2) (w:World) (h:StP w BX C l) :
  Calls Tryz.prog 176 #[.agg #[.int .i32 x1,.int .i32 x2],.pointer (some ⟨BX,0,none⟩)] w fun e w' =>e=.returned (.int .i64 (if q then 5 else 0))∧Below w.heap.size w w':=by
 have hB1:Below w.heap.size w (w.alloc (.cells #[.int .i32 x1,.int .i32 x2] 94)):=(Below.refl _ w).alloc zD _;have b0:=(h.below hB1).bx.cell 0;have bX:=Blk.new w #[.int .i32 x1,.int .i32 x2] 94;have q0:=bX.cell 0;have q1:=bX.cell 1;have HD:=kz (JF hl C x1 x2 h1 hx q hq (w.alloc (.cells #[.int .i32 x1,.int .i32 x2] 94)) (h.below hB1).st);have HB:=kz hB1;clear hB1 h hq h1 hx bX;go_enter Tryz.func176,Tryz.ntmps176;go_wp2_with fail
 refine (oz HD).mono ?_;rintro e w2 ⟨rfl,hb⟩;have HB2:=kz ((oz HB).trans (hb.mono (oz HB).size));clear hb HB HD;cases q
 all_goals
  go_wp2_with fail
  go_ret;exact ⟨rfl,oz HB2⟩
theorem zet {l:List (Int × Int)} (hl:l.length≤1000000) (BX C:Nat) (x1 x2:Int) (h1:R32 x1) (hx:x1≤x2) (q:Bool) (hq:q=true ↔ ∃ t,zi l t=true∧x1≤t∧t≤x2) (w:World) (h:StP w BX C l) :
  Calls Tryz.prog 178 #[.agg #[.int .i32 x1,.int .i32 x2],.pointer (some ⟨BX,0,none⟩)] w fun e w' =>e=.returned (.int .i64 (if q then 5 else 0))∧Below w.heap.size w w':=by
 have hB1:Below w.heap.size w (w.alloc (.cells #[.int .i32 x1,.int .i32 x2] 94)):=(Below.refl _ w).alloc zD _;have b0:=(h.below hB1).bx.cell 0;have bX:=Blk.new w #[.int .i32 x1,.int .i32 x2] 94;have q0:=bX.cell 0;have q1:=bX.cell 1;have HD:=kz (JF hl C x1 x2 h1 hx q hq (w.alloc (.cells #[.int .i32 x1,.int .i32 x2] 94)) (h.below hB1).st);have HB:=kz hB1;clear hB1 h hq h1 hx bX;go_enter Tryz.func178,Tryz.ntmps178;go_wp2_with fail
 refine (oz HD).mono ?_;rintro e w2 ⟨rfl,hb⟩;have HB2:=kz ((oz HB).trans (hb.mono (oz HB).size));clear hb HB HD;cases q
 all_goals
  go_wp2_with fail
  go_ret;exact ⟨rfl,oz HB2⟩
def zjN (P C E:Nat) (x1:Int) (x2:ByteArray) (e1 e2:Int):Nat→Value→World→Prop
 | 0,v,w =>v=.pointer (some ⟨C,0,none⟩)
 | 1,v,w =>v=.pointer (some ⟨P,0,none⟩)
 | 2,v,w =>v=.int .i32 x1
 | 3,v,w => ∃ g,v=.slice (some ⟨g,0,none⟩) 1 1∧RnC w w.heap.size (some ⟨g,0,none⟩) [x1]
 | 4,v,w =>v=.int .i64 e1
 | 5,v,w =>v=.pointer (some ⟨E,0,none⟩)
 | 6,v,w =>v=.pointer (some ⟨P,1,none⟩)
 | 7,v,w =>v=.string x2
 | 8,v,w => ∃ g c,v=.slice (some ⟨g,0,none⟩) (zk x2).length c∧RnG w g (zk x2)
 | 9,v,w =>v=.int .i64 e2
 | 10,v,w => ∃ g,v=.slice (some ⟨g,0,none⟩) 2 2∧Blk w g #[.int .i64 e1,.int .i64 e2] 87
 | 11,v,w =>v=.int .i64 (orE [e1,e2])
 | _,v,w =>True
def zjM (j:Nat):Bool:=false
theorem Xx {P C E:Nat} {x1:Int} {x2:ByteArray} {e1 e2:Int} {w w':World} (hb:Below w.heap.size w w'):∀ (j:Nat) (v:Value),zjN P C E x1 x2 e1 e2 j v w→zjN P C E x1 x2 e1 e2 j v w'
 | 0,v,h =>h
 | 1,v,h =>h
 | 2,v,h =>h
 | 3,v,h =>let ⟨g,e,h2⟩:=h; ⟨g,e,h2.below hb⟩
 | 4,v,h =>h
 | 5,v,h =>h
 | 6,v,h =>h
 | 7,v,h =>h
 | 8,v,h =>let ⟨g,c,e,h2⟩:=h; ⟨g,c,e,h2.below hb⟩
 | 9,v,h =>h
 | 10,v,h =>let ⟨g,e,h2⟩:=h; ⟨g,e,h2.below hb h2.lt⟩
 | 11,v,h =>h
 | _+12,v,h =>h
theorem Xy {P C E:Nat} {x1:Int} {x2:ByteArray} {e1 e2:Int} {w:World} (j:Nat) (v:Value) (hm:zjM j=true) (h:zjN P C E x1 x2 e1 e2 j v w):∀ b,v.ownBlock=some b→b < w.heap.size:=by
 cases hm
theorem zew {l:List (Int × Int)} (hl:l.length≤1000000) {m:List (Int × Int)} (hm:m.length≤1000000) (BX C BY E:Nat) (x1:Int) (x2:ByteArray) (hz:x2.size≤1048576) (hn:(zk x2).length≤1000000) (w0:World) (h:StP w0 BX C l) (h2:StP w0 BY E m) :
  Calls Tryz.prog 173 #[.agg #[.int .i32 x1,.string x2],.pointer (some ⟨BX,0,none⟩),.pointer (some ⟨BY,0,none⟩)] w0 fun e w' =>e=.returned (.int .i64 (if zi l x1 || (zk x2).any (zi m) then 5 else 0))∧Below w0.heap.size w0 w':=by
 have hmx:=zdA
 have hB0:Below w0.heap.size w0 (w0.alloc (.cells #[.int .i32 x1,.string x2] 102)).drew:=((Below.refl _ w0).alloc zD _).trans ⟨rfl,rfl,rfl,zD,fun _ _ =>rfl⟩;have bX:Blk (w0.alloc (.cells #[.int .i32 x1,.string x2] 102)).drew w0.heap.size #[.int .i32 x1,.string x2] 102:=Blk.new w0 _ _;have hU:=h.below hB0;have hU2:=h2.below hB0;have HF:Hz (∀ w1,Below (w0.alloc (.cells #[.int .i32 x1,.string x2] 102)).drew.heap.size (w0.alloc (.cells #[.int .i32 x1,.string x2] 102)).drew w1→Blk w1 w0.heap.size #[.int .i32 x1,.string x2] 102∧StP w1 BX C l∧StP w1 BY E m):=kz (fun w1 h1 =>⟨bX.below h1 bX.lt,hU.below h1,hU2.below h1⟩);have HB:=kz hB0;have HZ:=kz hz;have HN:=kz hn;have HLN:=kz (yB hl hm);obtain ⟨e1,he1⟩:∃ z:Int,(if [x1].any (zi l) then 5 else 0)=z:=⟨_,rfl⟩;obtain ⟨e2,he2⟩:∃ z:Int,(if (zk x2).any (zi m) then 5 else 0)=z:=⟨_,rfl⟩;have HFI:Hz ((if zi l x1 || (zk x2).any (zi m) then 5 else 0:Int)=orE [e1,e2]):=kz (by
  rw [← he1, ← he2,show [x1].any (zi l)=zi l x1 by simp];cases zi l x1 <;> cases (zk x2).any (zi m) <;> rfl)
 rw [oz HFI];have HE1:=kz he1;have HE2:=kz he2;clear hB0 bX hU hU2 h h2 he1 he2 hz hn HFI;go_enter Tryz.func173,Tryz.ntmps173;go_wp2_with fail
 generalize (w0.alloc _)=wz at *;refine zn hmx 12 (by decide) (by kernel_rfl) (by kernel_rfl) (fun l a w => ∃ U:Nat→Value,a = { tmps:=#[.agg #[.int .i32 x1,.string x2],.pointer (some ⟨BX,0,none⟩),.pointer (some ⟨BY,0,none⟩),.pointer (some ⟨w0.heap.size,0,none⟩),.int .i64 0,U 0,U 1,U 2,U 3,U 4,U 5,U 6,U 7,U 8,U 9,U 10,U 11],defers := [] }∧RgJ (wz.drew) (wz.drew.heap.size) (zjN w0.heap.size C E x1 x2 e1 e2) zjM l U w) ⟨fun _ =>undef,rfl,RgJ.start _ _ zD⟩ ?_ ?_
 ·rintro l a w i ⟨U,rfl,hJ⟩ hl hi hif;have h0:=(mem_ready.1 hi).1;have hlt:=Xo hl h0;have HJ:=kz hJ;clear hJ hl
  replace hlt:i < 13:=hlt
  obtain rfl | rfl | rfl | rfl | rfl | rfl | rfl | rfl | rfl | rfl | rfl | rfl:i=0∨i=1∨i=2∨i=3∨i=4∨i=5∨i=6∨i=7∨i=8∨i=9∨i=10∨i=11:=by omega
  any_goals refine Ky rfl (fun K hK =>?_)
  ·clear hlt hif;have q0:=(oz HF w (oz HJ).bel).2.1.bx.cell 0;go_simp;exact hK _ _ ⟨za U 0 _,rfl,(oz HJ).put 0 _ h0 zl (Xx zl) rfl Xy (zJ rfl)⟩
  ·clear hlt hif;go_simp;exact hK _ _ ⟨za U 1 _,rfl,(oz HJ).put 1 _ h0 zl (Xx zl) rfl Xy (zJ rfl)⟩
  ·clear hlt hif;have d1:U 1=.pointer (some ⟨w0.heap.size,0,none⟩):=(oz HJ).val 1 (zb hi 1 (by kernel_rfl));have q1:=(oz HF w (oz HJ).bel).1.cell 0;go_simp;exact hK _ _ ⟨za U 2 _,(by rw [zc d1];rfl),(oz HJ).put 2 _ h0 zl (Xx zl) rfl Xy (zJ rfl)⟩
  ·clear hlt hif;have d2:U 2=.int .i32 x1:=(oz HJ).val 2 (zb hi 2 (by kernel_rfl));go_simp;exact hK _ _ ⟨za U 3 _,(by rw [zc d2];rfl),(oz HJ).put 3 _ h0 (zl.alloc zD _) (Xx (zl.alloc zD _)) ⟨_,rfl,Zl w _ x1 _ rfl⟩ Xy (zJ rfl)⟩
  ·clear hlt hif;have d0:U 0=.pointer (some ⟨C,0,none⟩):=(oz HJ).val 0 (zb hi 0 (by kernel_rfl));obtain ⟨g3,d3,h3⟩:=(oz HJ).val 3 (zb hi 3 (by kernel_rfl));go_simp;refine (Yw (oz HLN).1 C [x1] (by simp) _ _ w (oz HF w (oz HJ).bel).2.1.st h3).mono ?_;rw [oz HE1];rintro e w' ⟨rfl,hb⟩;exact hK _ _ ⟨za U 4 _,(by rw [zc d0,zc d3];rfl),(oz HJ).put 4 _ h0 hb (Xx hb) rfl Xy (zJ rfl)⟩
  ·clear hlt hif;have q0:=(oz HF w (oz HJ).bel).2.2.bx.cell 0;go_simp;exact hK _ _ ⟨za U 5 _,rfl,(oz HJ).put 5 _ h0 zl (Xx zl) rfl Xy (zJ rfl)⟩
  ·clear hlt hif;go_simp;exact hK _ _ ⟨za U 6 _,rfl,(oz HJ).put 6 _ h0 zl (Xx zl) rfl Xy (zJ rfl)⟩
  ·clear hlt hif;have d6:U 6=.pointer (some ⟨w0.heap.size,1,none⟩):=(oz HJ).val 6 (zb hi 6 (by kernel_rfl));have q1:=(oz HF w (oz HJ).bel).1.cell 1;go_simp;exact hK _ _ ⟨za U 7 _,(by rw [zc d6];rfl),(oz HJ).put 7 _ h0 zl (Xx zl) rfl Xy (zJ rfl)⟩
  ·clear hlt hif;have d7:U 7=.string x2:=(oz HJ).val 7 (zb hi 7 (by kernel_rfl));go_simp;refine (zaz x2 (oz HZ) _).mono ?_;rintro e w' ⟨g2,c2,rfl,hg2,hrn,hb⟩;exact hK _ _ ⟨za U 8 _,(by rw [zc d7];rfl),(oz HJ).put 8 _ h0 hb (Xx hb) ⟨g2,c2,rfl,hrn⟩ Xy (zJ rfl)⟩
  ·clear hlt hif;have d5:U 5=.pointer (some ⟨E,0,none⟩):=(oz HJ).val 5 (zb hi 5 (by kernel_rfl));obtain ⟨g8,c8,d8,h8⟩:=(oz HJ).val 8 (zb hi 8 (by kernel_rfl));go_simp;refine (Yw (oz HLN).2 E (zk x2) (oz HN) _ _ w (oz HF w (oz HJ).bel).2.2.st (zca h8)).mono ?_;rw [oz HE2];rintro e w' ⟨rfl,hb⟩;exact hK _ _ ⟨za U 9 _,(by rw [zc d5,zc d8];rfl),(oz HJ).put 9 _ h0 hb (Xx hb) rfl Xy (zJ rfl)⟩
  ·clear hlt hif;have d4:U 4=.int .i64 e1:=(oz HJ).val 4 (zb hi 4 (by kernel_rfl));have d9:U 9=.int .i64 e2:=(oz HJ).val 9 (zb hi 9 (by kernel_rfl));go_simp;exact hK _ _ ⟨za U 10 _,(by rw [zc d4,zc d9];rfl),(oz HJ).put 10 _ h0 (zl.alloc zD _) (Xx (zl.alloc zD _)) ⟨_,rfl,Blk.new w _ _⟩ Xy (zJ rfl)⟩
  ·clear hlt hif;obtain ⟨g10,d10,h10⟩:=(oz HJ).val 10 (zb hi 10 (by kernel_rfl));go_simp;refine (jK [e1,e2] (by simp) _ 0 _ _ (Jm h10)).mono ?_;rintro e w' ⟨rfl,rfl⟩;exact hK _ _ ⟨za U 11 _,(by rw [zc d10];rfl),(oz HJ).put 11 _ h0 zl (Xx zl) rfl Xy (zJ rfl)⟩
 ·rintro l a w ⟨U,rfl,hJ⟩ hall;have d11:U 11=.int .i64 (orE [e1,e2]):=hJ.val 11 (hall 11 (by decide) (by decide));have HBJ:=kz ((oz HB).trans (hJ.bel.mono (oz HB).size));clear hJ hall;refine Ky rfl (fun K hK =>?_);obtain ⟨zz,hzz⟩:∃ zz,orE [e1,e2]=zz:=⟨_,rfl⟩;rw [hzz] at d11;have HZZ:=kz hzz;clear hzz;go_simp;refine hK _ _ ?_;clear hK;go_wp2_with fail
  go_ret;exact ⟨by rw [oz HZZ];rfl,oz HBJ⟩
def zjL (P C E:Nat) (x1:Int) (x2:ByteArray) (e1 e2:Int):Nat→Value→World→Prop
 | 0,v,w =>v=.pointer (some ⟨C,0,none⟩)
 | 1,v,w =>v=.pointer (some ⟨P,0,none⟩)
 | 2,v,w =>v=.int .i32 x1
 | 3,v,w => ∃ g,v=.slice (some ⟨g,0,none⟩) 1 1∧RnC w w.heap.size (some ⟨g,0,none⟩) [x1]
 | 4,v,w =>v=.int .i64 e1
 | 5,v,w =>v=.pointer (some ⟨C,0,none⟩)
 | 6,v,w =>v=.pointer (some ⟨P,1,none⟩)
 | 7,v,w =>v=.string x2
 | 8,v,w => ∃ g c,v=.slice (some ⟨g,0,none⟩) (zk x2).length c∧RnG w g (zk x2)
 | 9,v,w =>v=.int .i64 e2
 | 10,v,w => ∃ g,v=.slice (some ⟨g,0,none⟩) 2 2∧Blk w g #[.int .i64 e1,.int .i64 e2] 87
 | 11,v,w =>v=.int .i64 (orE [e1,e2])
 | _,v,w =>True
def zjK (j:Nat):Bool:=false
theorem Xv {P C E:Nat} {x1:Int} {x2:ByteArray} {e1 e2:Int} {w w':World} (hb:Below w.heap.size w w'):∀ (j:Nat) (v:Value),zjL P C E x1 x2 e1 e2 j v w→zjL P C E x1 x2 e1 e2 j v w'
 | 0,v,h =>h
 | 1,v,h =>h
 | 2,v,h =>h
 | 3,v,h =>let ⟨g,e,h2⟩:=h; ⟨g,e,h2.below hb⟩
 | 4,v,h =>h
 | 5,v,h =>h
 | 6,v,h =>h
 | 7,v,h =>h
 | 8,v,h =>let ⟨g,c,e,h2⟩:=h; ⟨g,c,e,h2.below hb⟩
 | 9,v,h =>h
 | 10,v,h =>let ⟨g,e,h2⟩:=h; ⟨g,e,h2.below hb h2.lt⟩
 | 11,v,h =>h
 | _+12,v,h =>h
theorem Xw {P C E:Nat} {x1:Int} {x2:ByteArray} {e1 e2:Int} {w:World} (j:Nat) (v:Value) (hm:zjK j=true) (h:zjL P C E x1 x2 e1 e2 j v w):∀ b,v.ownBlock=some b→b < w.heap.size:=by
 cases hm
theorem zev {l:List (Int × Int)} (hl:l.length≤1000000) (BX C:Nat) (x1:Int) (x2:ByteArray) (hz:x2.size≤1048576) (hn:(zk x2).length≤1000000) (w0:World) (h:StP w0 BX C l) :
  Calls Tryz.prog 174 #[.agg #[.int .i32 x1,.string x2],.pointer (some ⟨BX,0,none⟩)] w0 fun e w' =>e=.returned (.int .i64 (if zi l x1 || (zk x2).any (zi l) then 5 else 0))∧Below w0.heap.size w0 w':=by
 have hmx:=zdA
 have hB0:Below w0.heap.size w0 (w0.alloc (.cells #[.int .i32 x1,.string x2] 102)).drew:=((Below.refl _ w0).alloc zD _).trans ⟨rfl,rfl,rfl,zD,fun _ _ =>rfl⟩;have bX:Blk (w0.alloc (.cells #[.int .i32 x1,.string x2] 102)).drew w0.heap.size #[.int .i32 x1,.string x2] 102:=Blk.new w0 _ _;have hU:=h.below hB0;have hU2:=h.below hB0;have HF:Hz (∀ w1,Below (w0.alloc (.cells #[.int .i32 x1,.string x2] 102)).drew.heap.size (w0.alloc (.cells #[.int .i32 x1,.string x2] 102)).drew w1→Blk w1 w0.heap.size #[.int .i32 x1,.string x2] 102∧StP w1 BX C l∧StP w1 BX C l):=kz (fun w1 h1 =>⟨bX.below h1 bX.lt,hU.below h1,hU2.below h1⟩);have HB:=kz hB0;have HZ:=kz hz;have HN:=kz hn;have HLN:=kz (yB hl hl);obtain ⟨e1,he1⟩:∃ z:Int,(if [x1].any (zi l) then 5 else 0)=z:=⟨_,rfl⟩;obtain ⟨e2,he2⟩:∃ z:Int,(if (zk x2).any (zi l) then 5 else 0)=z:=⟨_,rfl⟩;have HFI:Hz ((if zi l x1 || (zk x2).any (zi l) then 5 else 0:Int)=orE [e1,e2]):=kz (by
  rw [← he1, ← he2,show [x1].any (zi l)=zi l x1 by simp];cases zi l x1 <;> cases (zk x2).any (zi l) <;> rfl)
 rw [oz HFI];have HE1:=kz he1;have HE2:=kz he2;clear hB0 bX hU hU2 h he1 he2 hz hn HFI;go_enter Tryz.func174,Tryz.ntmps174;go_wp2_with fail
 generalize (w0.alloc _)=wz at *;refine zn hmx 12 (by decide) (by kernel_rfl) (by kernel_rfl) (fun l a w => ∃ U:Nat→Value,a = { tmps:=#[.agg #[.int .i32 x1,.string x2],.pointer (some ⟨BX,0,none⟩),.pointer (some ⟨w0.heap.size,0,none⟩),.int .i64 0,U 0,U 1,U 2,U 3,U 4,U 5,U 6,U 7,U 8,U 9,U 10,U 11],defers := [] }∧RgJ (wz.drew) (wz.drew.heap.size) (zjL w0.heap.size C C x1 x2 e1 e2) zjK l U w) ⟨fun _ =>undef,rfl,RgJ.start _ _ zD⟩ ?_ ?_
 ·rintro l a w i ⟨U,rfl,hJ⟩ hl hi hif;have h0:=(mem_ready.1 hi).1;have hlt:=Xo hl h0;have HJ:=kz hJ;clear hJ hl
  replace hlt:i < 13:=hlt
  obtain rfl | rfl | rfl | rfl | rfl | rfl | rfl | rfl | rfl | rfl | rfl | rfl:i=0∨i=1∨i=2∨i=3∨i=4∨i=5∨i=6∨i=7∨i=8∨i=9∨i=10∨i=11:=by omega
  any_goals refine Ky rfl (fun K hK =>?_)
  ·clear hlt hif;have q0:=(oz HF w (oz HJ).bel).2.1.bx.cell 0;go_simp;exact hK _ _ ⟨za U 0 _,rfl,(oz HJ).put 0 _ h0 zl (Xv zl) rfl Xw (zJ rfl)⟩
  ·clear hlt hif;go_simp;exact hK _ _ ⟨za U 1 _,rfl,(oz HJ).put 1 _ h0 zl (Xv zl) rfl Xw (zJ rfl)⟩
  ·clear hlt hif;have d1:U 1=.pointer (some ⟨w0.heap.size,0,none⟩):=(oz HJ).val 1 (zb hi 1 (by kernel_rfl));have q1:=(oz HF w (oz HJ).bel).1.cell 0;go_simp;exact hK _ _ ⟨za U 2 _,(by rw [zc d1];rfl),(oz HJ).put 2 _ h0 zl (Xv zl) rfl Xw (zJ rfl)⟩
  ·clear hlt hif;have d2:U 2=.int .i32 x1:=(oz HJ).val 2 (zb hi 2 (by kernel_rfl));go_simp;exact hK _ _ ⟨za U 3 _,(by rw [zc d2];rfl),(oz HJ).put 3 _ h0 (zl.alloc zD _) (Xv (zl.alloc zD _)) ⟨_,rfl,Zl w _ x1 _ rfl⟩ Xw (zJ rfl)⟩
  ·clear hlt hif;have d0:U 0=.pointer (some ⟨C,0,none⟩):=(oz HJ).val 0 (zb hi 0 (by kernel_rfl));obtain ⟨g3,d3,h3⟩:=(oz HJ).val 3 (zb hi 3 (by kernel_rfl));go_simp;refine (Yw (oz HLN).1 C [x1] (by simp) _ _ w (oz HF w (oz HJ).bel).2.1.st h3).mono ?_;rw [oz HE1];rintro e w' ⟨rfl,hb⟩;exact hK _ _ ⟨za U 4 _,(by rw [zc d0,zc d3];rfl),(oz HJ).put 4 _ h0 hb (Xv hb) rfl Xw (zJ rfl)⟩
  ·clear hlt hif;have q0:=(oz HF w (oz HJ).bel).2.2.bx.cell 0;go_simp;exact hK _ _ ⟨za U 5 _,rfl,(oz HJ).put 5 _ h0 zl (Xv zl) rfl Xw (zJ rfl)⟩
  ·clear hlt hif;go_simp;exact hK _ _ ⟨za U 6 _,rfl,(oz HJ).put 6 _ h0 zl (Xv zl) rfl Xw (zJ rfl)⟩
  ·clear hlt hif;have d6:U 6=.pointer (some ⟨w0.heap.size,1,none⟩):=(oz HJ).val 6 (zb hi 6 (by kernel_rfl));have q1:=(oz HF w (oz HJ).bel).1.cell 1;go_simp;exact hK _ _ ⟨za U 7 _,(by rw [zc d6];rfl),(oz HJ).put 7 _ h0 zl (Xv zl) rfl Xw (zJ rfl)⟩
  ·clear hlt hif;have d7:U 7=.string x2:=(oz HJ).val 7 (zb hi 7 (by kernel_rfl));go_simp;refine (zaz x2 (oz HZ) _).mono ?_;rintro e w' ⟨g2,c2,rfl,hg2,hrn,hb⟩;exact hK _ _ ⟨za U 8 _,(by rw [zc d7];rfl),(oz HJ).put 8 _ h0 hb (Xv hb) ⟨g2,c2,rfl,hrn⟩ Xw (zJ rfl)⟩
  ·clear hlt hif;have d5:U 5=.pointer (some ⟨C,0,none⟩):=(oz HJ).val 5 (zb hi 5 (by kernel_rfl));obtain ⟨g8,c8,d8,h8⟩:=(oz HJ).val 8 (zb hi 8 (by kernel_rfl));go_simp;refine (Yw (oz HLN).2 C (zk x2) (oz HN) _ _ w (oz HF w (oz HJ).bel).2.2.st (zca h8)).mono ?_;rw [oz HE2];rintro e w' ⟨rfl,hb⟩;exact hK _ _ ⟨za U 9 _,(by rw [zc d5,zc d8];rfl),(oz HJ).put 9 _ h0 hb (Xv hb) rfl Xw (zJ rfl)⟩
  ·clear hlt hif;have d4:U 4=.int .i64 e1:=(oz HJ).val 4 (zb hi 4 (by kernel_rfl));have d9:U 9=.int .i64 e2:=(oz HJ).val 9 (zb hi 9 (by kernel_rfl));go_simp;exact hK _ _ ⟨za U 10 _,(by rw [zc d4,zc d9];rfl),(oz HJ).put 10 _ h0 (zl.alloc zD _) (Xv (zl.alloc zD _)) ⟨_,rfl,Blk.new w _ _⟩ Xw (zJ rfl)⟩
  ·clear hlt hif;obtain ⟨g10,d10,h10⟩:=(oz HJ).val 10 (zb hi 10 (by kernel_rfl));go_simp;refine (jK [e1,e2] (by simp) _ 0 _ _ (Jm h10)).mono ?_;rintro e w' ⟨rfl,rfl⟩;exact hK _ _ ⟨za U 11 _,(by rw [zc d10];rfl),(oz HJ).put 11 _ h0 zl (Xv zl) rfl Xw (zJ rfl)⟩
 ·rintro l a w ⟨U,rfl,hJ⟩ hall;have d11:U 11=.int .i64 (orE [e1,e2]):=hJ.val 11 (hall 11 (by decide) (by decide));have HBJ:=kz ((oz HB).trans (hJ.bel.mono (oz HB).size));clear hJ hall;refine Ky rfl (fun K hK =>?_);obtain ⟨zz,hzz⟩:∃ zz,orE [e1,e2]=zz:=⟨_,rfl⟩;rw [hzz] at d11;have HZZ:=kz hzz;clear hzz;go_simp;refine hK _ _ ?_;clear hK;go_wp2_with fail
  go_ret;exact ⟨by rw [oz HZZ];rfl,oz HBJ⟩
def zbj:List (Int × Int) := [(0,127)]++[(65533,65533)]
def zcY:List (Int × Int) := [(0,64),(91,127),(65533,65533),(65533,65533)]
def zgD:List (Int × Int) := [(0,31),(45,46),(65533,65533)]
def zjE:List (Int × Int) := [(45,46),(48,57)]
def zdm:List (Int × Int) := [(45,45),(48,57),(97,122)]
def ziq:List (Int × Int) := [(0,44),(46,47),(58,96),(123,127),(123,127)]
theorem zcd {r:Int} (h:zm r=true):zi zbj r=Zi r:=by
 have:=yL h;unfold zi Zi zbj;rw [h,Bool.and_true,Bool.eq_iff_iff];simp;omega
theorem zka {r:Int} (h:zm r=true):zi zcY r=(Zi r && decide (r < 65∨90 < r)):=by
 have:=yL h;unfold zi Zi zcY;rw [h,Bool.and_true,Bool.eq_iff_iff];simp;omega
theorem zeK {r:Int} (h:zm r=true):zi zgD r=Qw r:=by
 have:=yL h;unfold zi Qw zgD;rw [h,Bool.and_true,Bool.eq_iff_iff];simp;omega
theorem zfl (s:ByteArray):(zk s).any (zi zgD)=Za s:=by
 unfold Za;rw [Bool.eq_iff_iff,List.any_eq_true,List.any_eq_true];constructor
 ·rintro ⟨x,hx,e⟩;exact ⟨x,hx,by rw [← zeK (JL hx)];exact e⟩
 ·rintro ⟨x,hx,e⟩;exact ⟨x,hx,by rw [zeK (JL hx)];exact e⟩
theorem ziO (r:Int):zi zcY r=(zi zbj r && !zi [(65,90)] r):=by
 unfold zi zcY zbj;cases zm r with
 | false =>simp
 | true =>
  rw [Bool.and_true,Bool.and_true,Bool.and_true,Bool.eq_iff_iff];simp;omega
theorem zb1 (r:Int):zi ziq r=(zi [(0,127)] r && !zi zdm r):=by
 unfold zi ziq zdm;cases zm r with
 | false =>simp
 | true =>
  rw [Bool.and_true,Bool.and_true,Bool.and_true,Bool.eq_iff_iff];simp;omega
theorem KM {r:Int} (h0:0≤r) (h1:r≤127):zm r=true:=by
 unfold zm;simp;omega
theorem zd9 {x:Int × Int} (h1:zm x.1=true) (h:x.1≤x.2):decide (x.1 < 128∨(x.1≤65533∧65533≤x.2))=true ↔ ∃ t,zi zbj t=true∧x.1≤t∧t≤x.2:=by
 have hr:=yL h1;rw [decide_eq_true_eq];constructor
 ·rintro (c | c)
  ·exact ⟨x.1,by rw [zcd h1];simp [Zi,c],Int.le_refl _,h⟩
  ·exact ⟨65533,by decide,c.1,c.2⟩
 ·rintro ⟨t,ht,h2,h3⟩;have hrt:=((zE zbj t).1 ht).2;rw [zcd hrt] at ht;simp [Zi] at ht;omega
theorem zjm (k:Int):Q7 k=true ↔ k=45∨(48≤k∧k≤57)∨(97≤k∧k≤122):=by
 unfold Q7;rw [decide_eq_true_eq]
theorem zfe {r:Int} (h:zm r=true):zi zdm r=Q7 r:=by
 unfold zi zdm;rw [h,Bool.and_true,Bool.eq_iff_iff,zjm];simp;omega
theorem zd5 {x:Int × Int}:(List.range 128).any (fun k =>decide (x.1≤(k:Int)∧(k:Int)≤x.2) && !Q7 k)=true ↔ ∃ t,zi ziq t=true∧x.1≤t∧t≤x.2:=by
 rw [List.any_eq_true];constructor
 ·rintro ⟨k,hk,e⟩;rw [Bool.and_eq_true,decide_eq_true_eq] at e;have hk:=List.mem_range.1 hk;have hr:zm (k:Int)=true:=KM (by omega) (by omega);refine ⟨k, ?_,e.1.1,e.1.2⟩;rw [zb1,zfe hr,e.2,Bool.and_true,zE];exact ⟨⟨(0,127),by simp,by dsimp only;omega,by dsimp only;omega⟩,hr⟩
 ·rintro ⟨t,ht,h2,h3⟩;rw [zb1,Bool.and_eq_true] at ht;obtain ⟨ha,hb⟩:=ht;obtain ⟨⟨y,hy,h4,h5⟩,hr⟩:=(zE _ _).1 ha;obtain rfl:y=(0,127):=by simpa using hy
  dsimp only at h4 h5;refine ⟨t.toNat,List.mem_range.2 (by omega), ?_⟩;rw [show ((t.toNat:Nat):Int)=t by omega, ← zfe hr,hb,Bool.and_true,decide_eq_true_eq];exact ⟨h2,h3⟩
theorem zjD {r:Int} (h:zi zjE r=true):r ∈ comL:=by
 obtain ⟨⟨y,hy,h4,h5⟩,hr⟩:=(zE _ _).1 h;simp [zjE] at hy;rcases hy with rfl | rfl
 all_goals
  dsimp only at h4 h5;simp [comL];omega
theorem zh5 (l:List (Int × Int)):comL.all (fun r =>zi l r)=true ↔ ∀ r,zi zjE r=true→zi l r=true:=by
 rw [List.all_eq_true];constructor
 ·intro h r hr;exact h r (zjD hr)
 ·intro h r hr;refine h r ?_;simp [comL] at hr;rcases hr with rfl | rfl | rfl | rfl | rfl | rfl | rfl | rfl | rfl | rfl | rfl | rfl;all_goals decide
theorem zhT {r:Int} (h:zi zdm r=true):r ∈ labL:=by
 obtain ⟨⟨y,hy,h4,h5⟩,hr⟩:=(zE _ _).1 h;unfold labL;rw [List.mem_append];simp [zdm] at hy;rcases hy with rfl | rfl | rfl
 ·dsimp only at h4 h5;refine .inl ?_;simp;omega
 ·dsimp only at h4 h5;refine .inl ?_;simp;omega
 ·dsimp only at h4 h5;refine .inr (List.mem_map.2 ⟨(r - 97).toNat,List.mem_range.2 (by omega),by omega⟩)
theorem zhU (l:List (Int × Int)):labL.all (fun r =>zi l r)=true ↔ ∀ r,zi zdm r=true→zi l r=true:=by
 rw [List.all_eq_true];constructor
 ·intro h r hr;exact h r (zhT hr)
 ·intro h r hr;refine h r ?_;unfold labL at hr;rw [List.mem_append] at hr;rcases hr with hr | hr
  ·simp at hr;rcases hr with rfl | rfl | rfl | rfl | rfl | rfl | rfl | rfl | rfl | rfl | rfl;all_goals decide
  ·obtain ⟨k,hk,rfl⟩:=List.mem_map.1 hr;have:=List.mem_range.1 hk;rw [zE];exact ⟨⟨(97,122),by simp [zdm],by dsimp only;omega,by dsimp only;omega⟩,KM (by omega) (by omega)⟩
theorem zkr {w:World} {g:Nat} {l:List (Int × Int)} {cs:Array Value} {t:TypeId} (b:Blk w g cs t) (e:cs=(zM l).toArray):RowC w w.heap.size (some ⟨g,0,none⟩) (zM l):=fun _ =>⟨g,0,rfl,b.lt,fun j v hv =>by
 rw [Nat.zero_add,b.cell j,e,List.getElem?_toArray];exact hv⟩
theorem XV (l:List (Int × Int)) (n:Nat) (hn:n=l.length) (hl:l.length≤10) (hR:yO l) (g:Nat) (cs:Array Value) (t:TypeId) (w:World) (b:Blk w g cs t) (e:cs=(zM l).toArray) :
  Calls Tryz.prog 86 #[.slice (some ⟨g,0,none⟩) n n] w fun e w' => ∃ (B:Nat),e=.returned (.pointer (some ⟨B,0,none⟩))∧SetV w' l B∧Below w.heap.size w w':=by
 subst hn;exact Yy _ _ l (by omega) hR w (YB (zkr b e) zD)
theorem zdB {l1 l2:List (Int × Int)} {C1 C2:Nat} {w:World} (n1:l1.length≤5000) (n2:l2.length≤5000) (h1:SetV w l1 C1) (h2:SetV w l2 C2) :
  Calls Tryz.prog 167 #[.pointer (some ⟨C1,0,none⟩),.pointer (some ⟨C2,0,none⟩)] w fun e w' => ∃ (B:Nat),e=.returned (.pointer (some ⟨B,0,none⟩))∧SetV w' (l1++l2) B∧Below w.heap.size w w':=by
 obtain ⟨zs,lo1,a1,a2,a3,a4⟩:=h1;obtain ⟨ys,lo2,b1,b2,b3,b4⟩:=h2;refine (zfq C1 (some ⟨C2,0,none⟩) zs ys (by omega) (by omega) w (a1.set a2 (by omega)) (.inr ⟨C2,rfl,b1.set b2 (by omega)⟩)).mono ?_;rintro e w' ⟨B',lo0,us,rfl,_,u1,u2,u3,u4,hb⟩;exact ⟨B',rfl,⟨us,lo0,u1,u2,by rw [List.length_append];omega,fun r =>by rw [u4,a4,b4,jY]⟩,hb⟩
theorem KQ {l1 l2 l:List (Int × Int)} {C1 C2:Nat} {w:World} (n1:l1.length≤2000) (n2:l2.length≤2000) (hl:l1.length+l2.length+1≤l.length) (hm:∀ r,zi l r=(zi l1 r && !zi l2 r)) (h1:SetV w l1 C1) (h2:SetV w l2 C2) :
  Calls Tryz.prog 168 #[.pointer (some ⟨C1,0,none⟩),.pointer (some ⟨C2,0,none⟩)] w fun e w' => ∃ (B:Nat),e=.returned (.pointer (some ⟨B,0,none⟩))∧SetV w' l B∧Below w.heap.size w w':=by
 obtain ⟨zs,lo1,a1,a2,a3,a4⟩:=h1;obtain ⟨ys,lo2,b1,b2,b3,b4⟩:=h2;refine (zbf C1 (some ⟨C2,0,none⟩) zs ys (by omega) (by omega) w (a1.set a2 (by omega)) (.inr ⟨C2,rfl,b1.set b2 (by omega)⟩)).mono ?_;rintro e w' ⟨B',lo0,us,rfl,_,u1,u2,u3,u4,hb⟩;exact ⟨B',rfl,⟨us,lo0,u1,u2,by omega,fun r =>by rw [u4,a4,b4,hm]⟩,hb⟩
end
end Go.Proofs.YthchopdfmchpkaaGreat
