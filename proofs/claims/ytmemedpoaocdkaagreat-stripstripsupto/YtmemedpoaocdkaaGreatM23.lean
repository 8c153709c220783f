/- Texts of this claim, one behind the other. -/
import Derived.Test.YtmemedpoaocdkaaGreatM22
import Derived.Test.YtmemedpoaocdkaaGreatTlJ
namespace Go.Proofs.YtmemedpoaocdkaaGreat
set_option linter.unusedVariables false
section
open Go.RowKit Go.Shelf
set_option maxRecDepth 100000
set_option maxHeartbeats 8000000
theorem zkr (a b:Int) (w:World):Calls Tryz.prog 168 #[.int .i64 a,.int .i64 b] w fun e w' =>e=.returned (.bool (decide (a < b)))∧w'=w:=by
 have ha:(a != a)=false:=by simp
 go_enter Tryz.func168,Tryz.ntmps168
 go_wp2_with go_in
 go_ret
 exact ⟨rfl,rfl⟩
def zfF (m:Nat) (F:Nat→Int) (k:Nat) (n:Int):Bool:=decide (k < m∧F k=n)
theorem zjm (p:Option Addr) (cap m:Nat) (F:Nat→Int) (hl:m≤1112064) (hr:∀ i j:Nat,i < j→j < m→F i < F j) (n:Int) (W:World) (hi:0 < m→∃ g o,p=some ⟨g,o,none⟩∧g < W.heap.size∧∀ j,j < m→W.cell? ⟨g,o+j,none⟩=some (.int .i64 (F j))) :
  Calls Tryz.prog 101 #[.slice p m cap,.int .i64 n] W fun e w' => ∃ k:Nat,e=.returned (.tuple #[.int .i64 k,.bool (zfF m F k n)])∧k≤m∧(∀ j,j < k→F j < n)∧(∀ j,k≤j→j < m→n≤F j)∧Below W.heap.size W w':=by
 have HI:=kz hi
 have HRS:=kz hr
 clear hi hr
 go_enter Tryz.func101,Tryz.ntmps101
 go_wp2
 go_loop [7,8] (fun i j => ∃ a b:Nat,a≤b∧b≤m∧i=.int .i64 a∧j=.int .i64 b∧Hz (∀ j,j < a→F j < n)∧Hz (∀ j,b≤j→j < m→n≤F j)) (fun i j =>(intOf j).toNat - (intOf i).toNat)
 case atStart =>exact ⟨0,m,by omega,Nat.le_refl _,rfl,rfl,kz (fun j hj =>by omega),kz (fun j h1 h2 =>by omega)⟩
 case round =>
  obtain ⟨a,b,hab,hb,rfl,rfl,H1,H2⟩:=hrel
  by_cases hlt:a < b
  ·have h1:(a:Int) < (b:Int):=by omega
   obtain ⟨g,o,rfl,hg,hc⟩:=oz HI (by omega)
   have ck:=hc ((a+b) / 2) (by omega)
   have HM:Hz (∀ j,j < (a+b) / 2→F j < F ((a+b) / 2)):=kz (fun j hj =>oz HRS j _ hj (by omega))
   have HM2:Hz (∀ j,(a+b) / 2 < j→j < m→F ((a+b) / 2) < F j):=kz (fun j hj h2 =>oz HRS _ j hj h2)
   obtain ⟨x,hx⟩:∃ x,F ((a+b) / 2)=x:=⟨_,rfl⟩
   rw [hx] at ck HM HM2
   have HX:=kz hx
   clear hx hc
   by_cases hxn:x < n
   ·have hd:decide (x < n)=true:=decide_eq_true hxn
    go_wp2_with (go_at_call 168;refine (zkr _ _ _).mono ?_;rintro e w' ⟨rfl,rfl⟩)
    go_round
    case rel =>
     refine ⟨(a+b) / 2+1,b,by omega,hb, ?_,rfl,kz (fun j hj =>?_),H2⟩
     ·congr 1
     ·by_cases e:j=(a+b) / 2
      ·subst e;rw [oz HX];exact hxn
      ·have:=oz HM j (by omega);omega
    case measure =>simp [intOf];omega
   ·have hd:decide (x < n)=false:=decide_eq_false hxn
    go_wp2_with (go_at_call 168;refine (zkr _ _ _).mono ?_;rintro e w' ⟨rfl,rfl⟩)
    go_round
    case rel =>
     refine ⟨a,(a+b) / 2,by omega,by omega,rfl, ?_,H1,kz (fun j hj h2 =>?_)⟩
     ·congr 1
     ·by_cases e:j=(a+b) / 2
      ·subst e;rw [oz HX];omega
      ·have:=oz HM2 j (by omega) h2;omega
    case measure =>simp [intOf];omega
  ·have h1:¬ (a:Int) < (b:Int):=by omega
   obtain rfl:a=b:=by omega
   by_cases hal:a < m
   ·obtain ⟨g,o,rfl,hg,hc⟩:=oz HI (by omega)
    have ck:=hc a hal
    have h2:(a:Int) < (m:Int):=by omega
    have h3:((a:Nat):Int).toNat=a:=by omega
    obtain ⟨x,hx⟩:∃ x,F a=x:=⟨_,rfl⟩
    rw [hx] at ck
    have HX:=kz hx
    clear hx hc
    by_cases hxn:x=n
    ·subst hxn
     have hxe:(x == x)=true:=by simp
     have HD:=kz (show zfF m F a x=true from decide_eq_true ⟨hal,oz HX⟩)
     go_wp2
     go_ret2
     exact ⟨a,by rw [oz HD];rfl,hb,oz H1,oz H2,Below.refl _ _⟩
    ·have hxe:(x == n)=false:=beq_eq_false_iff_ne.2 hxn
     have hxx:(x != x)=false:=by simp
     have HD:=kz (show zfF m F a n=false from decide_eq_false (fun h =>hxn ((oz HX).symm.trans h.2)))
     go_wp2_with go_in
     go_ret2
     exact ⟨a,by rw [oz HD];rfl,hb,oz H1,oz H2,Below.refl _ _⟩
   ·have h2:¬ (a:Int) < (m:Int):=by omega
    have HD:=kz (show zfF m F a n=false from decide_eq_false (fun h =>hal h.1))
    go_wp2
    go_ret2
    exact ⟨a,by rw [oz HD];rfl,hb,oz H1,oz H2,Below.refl _ _⟩
theorem zje {zs:List (Int × Int)} (h:za8 zs):∀ i j:Nat,i < j→j < zs.length→total (zs.take i) < total (zs.take j):=by
 intro i j hij
 induction j with
 | zero =>omega
 | succ j ih =>
  intro hj
  obtain ⟨x,hx⟩:∃ x,zs[j]?=some x:=⟨_,List.getElem?_eq_getElem (by omega)⟩
  have hp:=h x (List.mem_of_getElem? hx)
  have:=zhN hp.1 hp.2
  rw [zdp hx,zep]
  rcases Nat.lt_or_eq_of_le (show i≤j by omega) with a | a
  ·have:=ih a (by omega);omega
  ·subst a;omega
theorem zlg {zs:List (Int × Int)} (hR:za8 zs) {n:Int} (h0:0≤n) (h1:n < total zs) {k:Nat} (hk:k≤zs.length) (ha:∀ j,j < k→total (zs.take j) < n) (hb:∀ j,k≤j→j < zs.length→n≤total (zs.take j)) :
  ∃ (i:Nat) (x:Int × Int),(if zfF zs.length (fun j =>total (zs.take j)) k n then i=k else i+1=k)∧zs[i]?=some x∧total (zs.take i)≤n∧n < total (zs.take i)+zaK x:=by
 by_cases c:k < zs.length∧total (zs.take k)=n
 ·obtain ⟨x,hx⟩:∃ x,zs[k]?=some x:=⟨_,List.getElem?_eq_getElem c.1⟩
  have hp:=hR x (List.mem_of_getElem? hx)
  have:=zhN hp.1 hp.2
  exact ⟨k,x,by rw [show zfF zs.length (fun j =>total (zs.take j)) k n=true from decide_eq_true c];simp,hx,by omega,by omega⟩
 ·cases k with
  | zero =>
   exfalso
   by_cases l:0 < zs.length
   ·have:=hb 0 (Nat.le_refl _) l
    simp only [List.take_zero,total] at this
    exact c ⟨l,by simp only [List.take_zero,total];omega⟩
   ·have:zs=[]:=List.eq_nil_of_length_eq_zero (by omega)
    subst this
    simp [total] at h1
    omega
  | succ i =>
   obtain ⟨x,hx⟩:∃ x,zs[i]?=some x:=⟨_,List.getElem?_eq_getElem (by omega)⟩
   have ht:total (zs.take (i+1))=total (zs.take i)+zaK x:=by rw [zdp hx,zep]
   refine ⟨i,x,by rw [show zfF zs.length (fun j =>total (zs.take j)) (i+1) n=false from decide_eq_false c];simp,hx,by have:=ha i (by omega);omega, ?_⟩
   by_cases l:i+1 < zs.length
   ·have:=hb (i+1) (Nat.le_refl _) l
    have:total (zs.take (i+1))≠n:=fun e =>c ⟨l,e⟩
    omega
   ·have:zs.take (i+1)=zs:=List.take_of_length_le (by omega)
    rw [this] at ht
    omega
theorem zrn (B:Nat) (zs:List (Int × Int)) (n:Int) (h0:0≤n) (h1:n < total zs) (w:World) (hs:SetAt w B zs) :
  Calls Tryz.prog 206 #[.pointer (some ⟨B,0,none⟩),.int .i64 n] w fun e w' =>e=.returned (.tuple #[.int .i32 (zbU zs n),.bool true])∧Below w.heap.size w w':=by
 have HS:=kz hs
 have HZ:=kz (zeN B zs w hs)
 have htb:=(zcR hs.spread.ends).2
 have hlen:=hs.len
 have htt:total zs≤1236686340096:=by omega
 have hge:¬ total zs≤n:=by omega
 have HT:=kz h1
 generalize htg:total zs=tot at *
 have HTG:=kz htg
 clear hs htb hlen htg
 go_enter Tryz.func206,Tryz.ntmps206
 go_wp2_with fail
 refine (oz HZ).mono ?_
 rintro e w1 ⟨rfl,hb1⟩
 have HB1:=kz hb1
 have HS1:=kz ((oz HS).below hb1)
 clear hb1
 obtain ⟨⟨a,ca,b,cb,hb0,hp,ha⟩,hsp,hl⟩:=oz HS1
 have d0:=hb0.cell 0
 have d1:=hb0.cell 1
 have HQ:=kz (zjm b cb zs.length (fun j =>total (zs.take j)) hl (zje hsp.ends) n w1 ha)
 have HBk:=kz hb0
 have HP:=kz hp
 have HA:=kz ha
 have HSp:=kz hsp
 clear hb0 hp ha hsp
 go_wp2_with fail
 refine (oz HQ).mono ?_
 rintro e w2 ⟨k,rfl,hk,hka,hkb,hb2⟩
 obtain ⟨i,x,hif,hx,hx1,hx2⟩:=zlg (oz HSp).ends h0 (by rw [oz HTG];exact h1) hk hka hkb
 have HB2:=kz ((oz HB1).trans (hb2.mono (oz HB1).size))
 have hbk:=(oz HBk).below hb2 (oz HBk).lt
 have e0:=hbk.cell 0
 have e1:=hbk.cell 1
 have hil:=(List.getElem?_eq_some_iff.1 hx).1
 obtain ⟨g,o,rfl,hg,hc⟩:=((oz HP).below hb2) (by omega)
 obtain ⟨g',o',rfl,hg',hc'⟩:=((oz HA).below hb2) (by omega)
 have c0:=(hc i x hx).1
 have c2:=hc' i hil
 have HV:=kz (zmD zs i x n (oz HSp).ends hx hx1 hx2)
 have hex:=zat ((oz HSp).ends x (List.mem_of_getElem? hx)).1
 have r1:=zaE hex.1.1 hex.1.2.1
 have r2:=zaE hex.2.1 hex.2.2.1
 have hss:zaK x=zae x.2+1 - zae x.1:=rfl
 have htk:0≤total (zs.take i):=zdo (oz HSp).ends i
 have hlo:0≤x.1∧x.1≤1114111:=⟨hex.1.1,hex.1.2.1⟩
 rw [hss] at hx2
 generalize hdc:zfF zs.length (fun j =>total (zs.take j)) k n=dc at hif ⊢
 clear hdc hka hkb
 generalize total (zs.take i)=tk at *
 obtain ⟨lo,hi⟩:=x
 simp only at c0 hx2 HV r1 r2 hlo
 have hi1:(i:Int) < (zs.length:Int):=by omega
 have hi2:((i:Nat):Int).toNat=i:=by omega
 clear hb2 hbk hc hc' hx hss HQ HS HS1 HA HP HBk HZ hex
 cases dc with
 | true =>
  simp at hif
  subst hif
  go_wp2
  go_quiet (first | (go_at_call 202;exact Calls.quiet_of_same (zdb _ (by omega) (by omega) _)) | (go_at_call 217;exact Calls.quiet_of_same (zet _ (by omega) (by omega) _)))
  go_wp2
  go_ret2
  exact ⟨by rw [oz HV,show zae lo+(n - tk)=zae lo+n - tk by omega];rfl,below_drewN (oz HB2) _⟩
 | false =>
  simp at hif
  subst hif
  have hi3:((i+1:Nat):Int) - 1=(i:Int):=by omega
  go_wp2
  go_quiet (first | (go_at_call 202;exact Calls.quiet_of_same (zdb _ (by omega) (by omega) _)) | (go_at_call 217;exact Calls.quiet_of_same (zet _ (by omega) (by omega) _)))
  go_wp2
  go_ret2
  exact ⟨by rw [oz HV,show zae lo+(n - tk)=zae lo+n - tk by omega];rfl,below_drewN (oz HB2) _⟩
theorem zq1 (B:Nat) (zs:List (Int × Int)) (n:Int) (h:n < 0∨total zs≤n) (w:World) (hs:SetAt w B zs) :
  Calls Tryz.prog 206 #[.pointer (some ⟨B,0,none⟩),.int .i64 n] w fun e w' =>e=.returned (.tuple #[.int .i32 0,.bool false])∧Below w.heap.size w w':=by
 have HZ:=kz (zeN B zs w hs)
 by_cases h0:n < 0
 ·go_enter Tryz.func206,Tryz.ntmps206
  go_wp2
  go_ret2
  exact ⟨rfl,Below.refl _ _⟩
 ·have h1:total zs≤n:=by omega
  generalize total zs=tot at *
  clear hs h
  go_enter Tryz.func206,Tryz.ntmps206
  go_wp2_with fail
  refine (oz HZ).mono ?_
  rintro e w1 ⟨rfl,hb1⟩
  have HB1:=kz hb1
  clear hb1
  go_wp2
  go_ret2
  exact ⟨rfl,oz HB1⟩
def znE (zs:List (Int × Int)) (n:Int):Value:=if 0≤n∧n < total zs then .tuple #[.int .i32 (zbU zs n),.bool true] else .tuple #[.int .i32 0,.bool false]
theorem zpp (B:Nat) (zs:List (Int × Int)) (n:Int) (w:World) (hs:SetAt w B zs) :
  Calls Tryz.prog 206 #[.pointer (some ⟨B,0,none⟩),.int .i64 n] w fun e w' =>e=.returned (znE zs n)∧Below w.heap.size w w':=by
 unfold znE
 by_cases h:0≤n∧n < total zs
 ·rw [if_pos h];exact zrn B zs n h.1 h.2 w hs
 ·rw [if_neg h];exact zq1 B zs n (by omega) w hs
theorem zgR (B:Nat) (zs:List (Int × Int)) (r:Int) (h0 : -2147483648≤r) (h1:r≤2147483647) (w:World) (hs:SetAt w B zs) :
  Calls Tryz.prog 205 #[.pointer (some ⟨B,0,none⟩),.int .i32 r] w fun e w' =>e=.returned (.int .i64 (zay zs r))∧Below w.heap.size w w' :=
 (zi3 B zs r h0 h1 w hs).mono fun e w' ⟨k,he,hc,hb⟩ =>⟨by rw [he,zgT zs r k hs.spread hc],hb⟩
theorem zeJ:∀ (zs:List (Int × Int)) (r:Int),za8 zs→-2147483648≤r→r≤2147483647→-(4294967296*zs.length)≤zay zs r∧zay zs r≤4294967296*zs.length
 | [],r,_,_,_ =>by simp [zay]
 | x::zs,r,hR,h0,h1 =>by
  have ih:=zeJ zs r (fun z hz =>hR z (List.mem_cons_of_mem _ hz)) h0 h1
  have he:=zat (hR x List.mem_cons_self).1
  have a:=zaE he.1.1 he.1.2.1
  have b:=zaE he.2.1 he.2.2.1
  have c : -2147483648≤zae r∧zae r≤2147483647:=by unfold zae;split <;> (try split) <;> omega
  simp only [List.length_cons]
  show _≤(if x.1 < r then _ else 0)+zay zs r∧(if x.1 < r then _ else 0)+zay zs r≤_
  split <;> omega
theorem zpT (B:Nat) (zs:List (Int × Int)) (r:Int) (hm:zam zs r=true) (h0 : -2147483648≤r) (h1:r≤2147483647) (w:World) (hs:SetAt w B zs) :
  Calls Tryz.prog 195 #[.pointer (some ⟨B,0,none⟩),.int .i32 r] w fun e w' =>e=.returned (znE zs (zay zs r+1))∧Below w.heap.size w w':=by
 have HS:=kz hs
 have hbd:=zeJ zs r hs.spread.ends h0 h1
 have hl:=hs.len
 have HQ:=kz (zgR B zs r h0 h1 w hs)
 have HI:=kz (fun w hs =>zks B zs r w hs)
 rw [hm] at HI
 obtain ⟨bo,hbo⟩:∃ bo,zay zs r=bo:=⟨_,rfl⟩
 rw [hbo] at hbd HQ ⊢
 have hbb : -9000000000000000≤bo∧bo≤9000000000000000:=by omega
 obtain ⟨t,d,ht⟩:∃ t d,znE zs (bo+1)=.tuple #[.int .i32 t,.bool d]:=by
  unfold znE
  split <;> exact ⟨_,_,rfl⟩
 have HA:=kz (fun w hs =>zpp B zs (bo+1) w hs)
 rw [ht] at HA ⊢
 clear hs hbd hl hm hbo ht
 go_enter Tryz.func195,Tryz.ntmps195
 go_wp2_with fail
 refine (oz HQ).mono ?_
 rintro e w1 ⟨rfl,hb1⟩
 have HB1:=kz hb1
 have HS1:=kz ((oz HS).below hb1)
 clear hb1
 go_wp2_with fail
 refine (oz HI w1 (oz HS1)).mono ?_
 rintro e w2 ⟨rfl,hb2⟩
 have HB2:=kz ((oz HB1).trans (hb2.mono (oz HB1).size))
 have HS2:=kz ((oz HS1).below hb2)
 clear hb2
 go_wp2_with fail
 refine (oz HA w2 (oz HS2)).mono ?_
 rintro e w3 ⟨rfl,hb3⟩
 have HB3:=kz ((oz HB2).trans (hb3.mono (oz HB2).size))
 clear hb3
 go_wp2
 go_ret2
 exact ⟨rfl,oz HB3⟩
theorem zoJ (B:Nat) (zs:List (Int × Int)) (r:Int) (hm:zam zs r=false) (h0 : -2147483648≤r) (h1:r≤2147483647) (w:World) (hs:SetAt w B zs) :
  Calls Tryz.prog 195 #[.pointer (some ⟨B,0,none⟩),.int .i32 r] w fun e w' =>e=.returned (znE zs (zay zs r))∧Below w.heap.size w w':=by
 have HS:=kz hs
 have hbd:=zeJ zs r hs.spread.ends h0 h1
 have hl:=hs.len
 have HQ:=kz (zgR B zs r h0 h1 w hs)
 have HI:=kz (fun w hs =>zks B zs r w hs)
 rw [hm] at HI
 obtain ⟨bo,hbo⟩:∃ bo,zay zs r=bo:=⟨_,rfl⟩
 rw [hbo] at hbd HQ ⊢
 have hbb : -9000000000000000≤bo∧bo≤9000000000000000:=by omega
 obtain ⟨t,d,ht⟩:∃ t d,znE zs (bo)=.tuple #[.int .i32 t,.bool d]:=by
  unfold znE
  split <;> exact ⟨_,_,rfl⟩
 have HA:=kz (fun w hs =>zpp B zs (bo) w hs)
 rw [ht] at HA ⊢
 clear hs hbd hl hm hbo ht
 go_enter Tryz.func195,Tryz.ntmps195
 go_wp2_with fail
 refine (oz HQ).mono ?_
 rintro e w1 ⟨rfl,hb1⟩
 have HB1:=kz hb1
 have HS1:=kz ((oz HS).below hb1)
 clear hb1
 go_wp2_with fail
 refine (oz HI w1 (oz HS1)).mono ?_
 rintro e w2 ⟨rfl,hb2⟩
 have HB2:=kz ((oz HB1).trans (hb2.mono (oz HB1).size))
 have HS2:=kz ((oz HS1).below hb2)
 clear hb2
 go_wp2_with fail
 refine (oz HA w2 (oz HS2)).mono ?_
 rintro e w3 ⟨rfl,hb3⟩
 have HB3:=kz ((oz HB2).trans (hb3.mono (oz HB2).size))
 clear hb3
 go_wp2
 go_ret2
 exact ⟨rfl,oz HB3⟩
def zjz (b:Bool):Int:=if b then 1 else 0
def zd4 (x:Int × Int) (r:Int):Int:=if x.1 < r then min (zae r) (zae x.2+1) - zae x.1 else 0
theorem zeo (x:Int × Int) (zs:List (Int × Int)) (r:Int):zay (x::zs) r=zd4 x r+zay zs r:=rfl
theorem zmt (r:Int):zae (r+1)=zae r+(if r < 55296∨57343 < r then 1 else 0):=by
 unfold zae
 repeat' split
 all_goals omega
theorem zki {a b:Int} (h:a≤b):zae a≤zae b:=by
 unfold zae
 repeat' split
 all_goals omega
theorem zg0 {x:Int × Int} (he:za6 x=true) (hx:x.1≤x.2) (r:Int):zd4 x (r+1)=zd4 x r+zjz (decide (x.1≤r∧r≤x.2) && zan r):=by
 have e:=zat he
 have hs:=zmt r
 unfold zd4 zjz
 by_cases h1:x.1 < r
 ·rw [if_pos h1,if_pos (by omega)]
  by_cases h2:r≤x.2
  ·have m1:=zki h2
   by_cases h3:r < 55296∨57343 < r
   ·rw [if_pos h3] at hs
    have hb:(decide (x.1≤r∧r≤x.2) && zan r)=true:=by unfold zan;simp;omega
    rw [hb]
    simp only [if_true]
    omega
   ·rw [if_neg h3] at hs
    have hb:(decide (x.1≤r∧r≤x.2) && zan r)=false:=by unfold zan;simp;omega
    rw [hb]
    simp only [Bool.false_eq_true,if_false]
    omega
  ·have m1:=zcn (a:=x.2) (b:=r) (by omega) (by omega)
   have m2:=zcn (a:=x.2) (b:=r+1) (by omega) (by omega)
   have hb:(decide (x.1≤r∧r≤x.2) && zan r)=false:=by simp;omega
   rw [hb]
   simp only [Bool.false_eq_true,if_false]
   omega
 ·rw [if_neg h1]
  by_cases h2:x.1=r
  ·subst h2
   rw [if_pos (by omega)]
   rw [if_pos (by omega)] at hs
   have hb:(decide (x.1≤x.1∧x.1≤x.2) && zan x.1)=true:=by unfold zan;simp;omega
   rw [hb]
   have m1:=zki hx
   simp only [if_true]
   omega
  ·rw [if_neg (by omega)]
   have hb:(decide (x.1≤r∧r≤x.2) && zan r)=false:=by simp;omega
   rw [hb]
   simp
theorem zen:∀ (zs:List (Int × Int)) (r:Int),Spread zs→zay zs (r+1)=zay zs r+zjz (zam zs r)
 | [],r,_ =>by simp [zay,zam,zjz]
 | x::zs,r,h =>by
  have he:=h.ends x List.mem_cons_self
  have hs:=zg0 he.1 he.2 r
  have ht:=zen zs r h.tail
  rw [zeo,zeo,hs,ht]
  have hc:zam (x::zs) r=((decide (x.1≤r∧r≤x.2) && zan r) || zam zs r):=by
   unfold zam
   simp only [List.any_cons,Bool.and_or_distrib_right]
  rw [hc]
  by_cases hd:(decide (x.1≤r∧r≤x.2) && zan r)=true
  ·have hz:zam zs r=false:=by
    rw [← Bool.not_eq_true]
    intro hm
    obtain ⟨⟨y,hy,p,q⟩,_⟩:=(zaD _ _).1 hm
    have:=h.head_lt hy
    simp at hd
    omega
   rw [hd,hz]
   simp [zjz]
   omega
  ·rw [Bool.not_eq_true] at hd
   rw [hd,Bool.false_or]
   simp [zjz]
   omega
theorem zgS:∀ (zs:List (Int × Int)),Spread zs→zay zs 1114112=total zs
 | [],_ =>rfl
 | x::zs,h =>by
  have he:=h.ends x List.mem_cons_self
  have e:=zat he.1
  have m1:=zcn (a:=x.2) (b:=1114112) (by omega) (by omega)
  rw [zeo,zch,zgS zs h.tail]
  unfold zd4 zaK
  rw [if_pos (by omega)]
  omega
theorem zkI {zs:List (Int × Int)} (h:Spread zs):(total zs == 0)=decide (zs=[]):=by
 cases zs with
 | nil =>rfl
 | cons x zs =>
  have he:=h.ends x List.mem_cons_self
  have p:=zhN he.1 he.2
  have q:=(zcR h.tail.ends).1
  have:total (x::zs)≠0:=by rw [zch];omega
  simp [this]
theorem zfJ:∀ (zs:List (Int × Int)) (r:Int),za8 zs→0≤zay zs r
 | [],r,_ =>by simp [zay]
 | x::zs,r,hR =>by
  have ih:=zfJ zs r (fun z hz =>hR z (List.mem_cons_of_mem _ hz))
  have hx:=hR x List.mem_cons_self
  have he:=zat hx.1
  have hrk:=(zbR he.1.2.2 he.2.2.2).2 hx.2
  show 0≤(if x.1 < r then _ else 0)+zay zs r
  split
  ·rename_i h
   have:=zcn he.1.2.2 h
   omega
  ·omega
end
section
open Go.RowKit Go.Shelf Go.Maps
set_option maxRecDepth 100000
set_option maxHeartbeats 8000000
theorem zmA (b:Bool):0≤zjz b:=by cases b <;> decide
theorem zhE {zs:List (Int × Int)} (h:Spread zs) (a:Int):∀ n:Nat,zay zs a≤zay zs (a+n)
 | 0 =>by simp
 | n+1 =>by
  have h1:=zhE h a n
  have h2:=zen zs (a+n) h
  have h3:=zmA (zam zs (a+n))
  rw [show a+((n+1:Nat):Int)=a+n+1 by omega,h2]
  omega
theorem zf7 {zs:List (Int × Int)} (h:Spread zs) {a b:Int} (hab:a≤b):zay zs a≤zay zs b:=by
 have:=zhE h a (b - a).toNat
 rwa [show a+((b - a).toNat:Int)=b by omega] at this
theorem zjV {zs:List (Int × Int)} (h:Spread zs) (r hi:Int) (hr:zam zs r=false):(decide (0≤zay zs r∧zay zs r < total zs) && decide (zbU zs (zay zs r)≤hi))=true ↔ ∃ t,zam zs t=true∧r≤t∧t≤hi:=by
 have h0:=zfJ zs r h.ends
 constructor
 ·intro hq
  rw [Bool.and_eq_true,decide_eq_true_eq,decide_eq_true_eq] at hq
  obtain ⟨⟨_,h1⟩,h2⟩:=hq
  obtain ⟨m1,m2,m3,_⟩:=zmE h h0 h1
  refine ⟨_,m1, ?_,h2⟩
  rcases Int.lt_or_le (zbU zs (zay zs r)) r with c | c
  ·have:=zf7 h (show zbU zs (zay zs r)+1≤r by omega)
   omega
  ·exact c
 ·rintro ⟨t,m,ht,hth⟩
  have hs:zay zs (t+1)=zay zs t+1:=by rw [zen zs t h,m];rfl
  have h1:=zf7 h ht
  have hlt:zay zs r < total zs:=by
   have h2:=zgS zs h
   have h3:t≤1114111:=(zaZ ((zaD zs t).1 m).2).2.1
   have h4:=zf7 h (show t+1≤1114112 by omega)
   omega
  rw [Bool.and_eq_true,decide_eq_true_eq,decide_eq_true_eq]
  refine ⟨⟨h0,hlt⟩, ?_⟩
  obtain ⟨m1,m2,m3,_⟩:=zmE h h0 hlt
  rcases Int.lt_or_le t (zbU zs (zay zs r)) with c | c
  ·have:=zf7 h (show t+1≤zbU zs (zay zs r) by omega)
   omega
  ·omega
theorem zkA (zs:List (Int × Int)) (n:Int):∃ v ok,znE zs n=.tuple #[.int .i32 v,.bool ok]∧ok=decide (0≤n∧n < total zs)∧(ok=true→v=zbU zs n):=by
 unfold znE
 by_cases h:0≤n∧n < total zs
 ·rw [if_pos h]
  exact ⟨_,_,rfl,by simp [h],fun _ =>rfl⟩
 ·rw [if_neg h]
  exact ⟨_,_,rfl,by simp [h],fun q =>by cases q⟩
theorem ze8 {l:List (Int × Int)} (hl:l.length≤1000000) (C:Nat) (x1 x2:Int) (h1:R32 x1) (hx:x1≤x2) (q:Bool) (hq:q=true ↔ ∃ t,zam l t=true∧x1≤t∧t≤x2) (w:World) (h:SetV w l C) :
  Calls Tryz.prog 159 #[.pointer (some ⟨C,0,none⟩),.agg #[.int .i32 x1,.int .i32 x2]] w fun e w' =>e=.returned (.int .i64 (if q then 5 else 0))∧Below w.heap.size w w':=by
 have hB:Below w.heap.size w (w.alloc (.cells #[.int .i32 x1,.int .i32 x2] 113)):=(Below.refl _ w).alloc (Nat.le_refl _) _
 have bX:=Blk.new w #[.int .i32 x1,.int .i32 x2] 113
 have hV:=h.below hB
 obtain ⟨zs,lo0,m1,m2,m3,m4⟩:=hV
 have hA:=m1.set m2 (by omega)
 have HI:=kz (fun w1 (hb:Below (w.alloc (.cells #[.int .i32 x1,.int .i32 x2] 113)).heap.size (w.alloc (.cells #[.int .i32 x1,.int .i32 x2] 113)) w1) =>zks C zs x1 w1 ((m1.below hb).set m2 (by omega)))
 have HX:=kz (fun w1 (hb:Below (w.alloc (.cells #[.int .i32 x1,.int .i32 x2] 113)).heap.size (w.alloc (.cells #[.int .i32 x1,.int .i32 x2] 113)) w1) =>bX.below hb bX.lt)
 have q0:=bX.cell 0
 have HB:=kz hB
 have hq2:q=true ↔ ∃ t,zam zs t=true∧x1≤t∧t≤x2:=by
  rw [hq]
  constructor
  ·rintro ⟨t,a,b⟩;exact ⟨t,by rw [m4];exact a,b⟩
  ·rintro ⟨t,a,b⟩;exact ⟨t,by rw [← m4];exact a,b⟩
 cases hm:zam zs x1 with
 | true =>
  obtain rfl:q=true:=hq2.2 ⟨x1,hm,Int.le_refl _,hx⟩
  have HN:=kz (zpT C zs x1 hm h1.1 h1.2 _ hA)
  obtain ⟨v,ok,ev,_⟩:=zkA zs (zay zs x1+1)
  rw [ev] at HN
  rw [hm] at HI
  clear hB bX h m1 m2 m3 m4 hA hq hq2 hm ev h1 hx
  go_enter Tryz.func159,Tryz.ntmps159
  go_wp2_with fail
  refine (oz HN).mono ?_
  rintro e w1 ⟨rfl,hb⟩
  have HB1:=kz hb
  have p0:=(oz HX w1 hb).cell 0
  clear hb HN q0
  go_wp2_with fail
  refine (oz HI w1 (oz HB1)).mono ?_
  rintro e w2 ⟨rfl,hb⟩
  have HB2:=kz ((oz HB).trans (((oz HB1).trans (hb.mono (oz HB1).size)).mono (oz HB).size))
  clear hb HI p0 HX
  go_wp2_with fail
  refine (zaF true 5 w2).mono ?_
  rintro e w3 ⟨rfl,hw⟩
  rw [hw]
  clear hw
  go_wp2_with fail
  go_ret
  exact ⟨rfl,oz HB2⟩
 | false =>
  have HN:=kz (zoJ C zs x1 hm h1.1 h1.2 _ hA)
  have hfa:=zjV m2 x1 x2 hm
  obtain ⟨v,ok,ev,e1,e2⟩:=zkA zs (zay zs x1)
  rw [ev] at HN
  rw [hm] at HI
  have HQ:Hz ((ok && decide (v≤x2))=q):=kz (by
   rw [Bool.eq_iff_iff,hq2, ← hfa, ← e1]
   cases ok with
   | false =>simp
   | true =>rw [e2 rfl])
  clear hB bX h m1 m2 m3 m4 hA hq hq2 hm ev h1 hx e1 e2 hfa
  cases ok with
  | false =>
   obtain rfl:q=false:=(oz HQ).symm
   go_enter Tryz.func159,Tryz.ntmps159
   go_wp2_with fail
   refine (oz HN).mono ?_
   rintro e w1 ⟨rfl,hb⟩
   have HB1:=kz hb
   have p0:=(oz HX w1 hb).cell 0
   clear hb HN q0
   go_wp2_with fail
   refine (oz HI w1 (oz HB1)).mono ?_
   rintro e w2 ⟨rfl,hb⟩
   have HB2:=kz ((oz HB).trans (((oz HB1).trans (hb.mono (oz HB1).size)).mono (oz HB).size))
   clear hb HI p0 HX
   go_wp2_with fail
   refine (zaF false 5 w2).mono ?_
   rintro e w3 ⟨rfl,hw⟩
   rw [hw]
   clear hw
   go_wp2_with fail
   go_ret
   exact ⟨rfl,oz HB2⟩
  | true =>
   have HQ2:Hz (decide (v≤x2)=q):=kz (by have:=oz HQ;rwa [Bool.true_and] at this)
   go_enter Tryz.func159,Tryz.ntmps159
   go_wp2_with fail
   refine (oz HN).mono ?_
   rintro e w1 ⟨rfl,hb⟩
   have HB1:=kz hb
   have p0:=(oz HX w1 hb).cell 0
   clear hb HN q0
   go_wp2_with fail
   refine (oz HI w1 (oz HB1)).mono ?_
   rintro e w2 ⟨rfl,hb⟩
   have p1:=(oz HX w2 ((oz HB1).trans (hb.mono (oz HB1).size))).cell 1
   have HB2:=kz ((oz HB).trans (((oz HB1).trans (hb.mono (oz HB1).size)).mono (oz HB).size))
   clear hb HI p0 HX HQ
   go_wp2_with fail
   refine (zaF (decide (v≤x2)) 5 w2).mono ?_
   rw [oz HQ2]
   rintro e w3 ⟨rfl,hw⟩
   rw [hw]
   clear hw
   cases q
   all_goals
    go_wp2_with fail
    go_ret
    exact ⟨rfl,oz HB2⟩
theorem zpS {zs:List (Int × Int)} (h:Spread zs):zs=[] ↔ ∀ r,zam zs r=false:=by
 constructor
 ·rintro rfl r
  rfl
 ·intro hr
  cases zs with
  | nil =>rfl
  | cons x zs =>
   have:=(zo0 h).1
   rw [hr] at this
   cases this
theorem zgB {lm lh:List (Int × Int)} (hm:lm.length≤1024) (hh:lh.length≤1024) (list:Int) (Ch Cm:Nat) (q:Bool) (hq:q=true ↔ ∀ r,zam lm r=true→zam lh r=true) (w:World) (h1:SetV w lh Ch) (h2:SetV w lm Cm) :
  Calls Tryz.prog 151 #[.int .i64 list,.pointer (some ⟨Ch,0,none⟩),.pointer (some ⟨Cm,0,none⟩)] w fun e w' =>e=.returned (wrV (if q then (0,0,0) else (5,list,0)))∧Below w.heap.size w w':=by
 have hB:Below w.heap.size w (w.alloc (.cells #[.int .i64 0,.int .i64 0,.int .i64 0] 76)):=(Below.refl _ w).alloc (Nat.le_refl _) _
 have bR:=Blk.new w #[.int .i64 0,.int .i64 0,.int .i64 0] 76
 obtain ⟨ys,lo1,a1,a2,a3,a4⟩:=h1.below hB
 obtain ⟨zs,lo2,b1,b2,b3,b4⟩:=h2.below hB
 have HM:=kz (ziM Cm (some ⟨Ch,0,none⟩) zs ys (by omega) (by omega) _ (b1.set b2 (by omega)) (.inr ⟨Ch,rfl,a1.set a2 (by omega)⟩))
 have HB:=kz (And.intro hB bR)
 have HQ:Hz (∀ us,Spread us→(∀ r,zam us r=(zam zs r && !zam ys r))→(total us == 0)=q):=kz (fun us hs hr =>by
  rw [zkI hs,Bool.eq_iff_iff,decide_eq_true_eq,zpS hs,hq]
  constructor
  ·intro h r hl
   have:=h r
   rw [hr,b4,hl,Bool.true_and,a4] at this
   simpa using this
  ·intro h r
   rw [hr,b4,a4]
   cases hl:zam lm r with
   | false =>rfl
   | true =>rw [h r hl];rfl)
 have HL:=kz (And.intro a3 b3)
 clear hB bR h1 h2 a1 a2 a3 a4 b1 b2 b3 b4 hq
 go_enter Tryz.func151,Tryz.ntmps151
 go_wp2_with fail
 refine (oz HM).mono ?_
 rintro e w1 ⟨B',lo0,us,rfl,_,u1,u2,u3,u4,hb⟩
 have HU:=kz (zeN B' us w1 (u1.set u2 (by have:=oz HL;omega)))
 have HT:=kz (oz HQ us u2 u4)
 have HB1:=kz (And.intro ((oz HB).1.trans (hb.mono (oz HB).1.size)) ((oz HB).2.below hb (oz HB).2.lt))
 clear u1 u2 u3 u4 hb HM HB HQ HL
 generalize total us=tt at *
 go_wp2_with fail
 refine (oz HU).mono ?_
 rintro e w2 ⟨rfl,hb⟩
 have HB2:=kz (And.intro ((oz HB1).1.trans (hb.mono (oz HB1).1.size)) ((oz HB1).2.below hb (oz HB1).2.lt))
 clear hb HU HB1
 have r0:=(oz HB2).2.cell 0
 have r1:=(oz HB2).2.cell 1
 have r2:=(oz HB2).2.cell 2
 have f0:=(oz HB2).2.frozen 0
 have f1:=(oz HB2).2.frozen 1
 have f2:=(oz HB2).2.frozen 2
 cases q with
 | true =>
  obtain rfl:tt=0:=by simpa using oz HT
  go_wp2_with fail
  exact bodyPost_ret (v:=wrV (0,0,0)) (zb8 Tryz.results151 rfl (zcf (oz HB2).2 _ _ _) rfl) rfl ⟨rfl,zaW (oz HB2).1 (Nat.le_refl _) (oz HB2).1.size _ _ _⟩
 | false =>
  have t0:¬ tt=0:=by simpa using oz HT
  have t1:(tt == 0)=false:=oz HT
  go_wp2_with fail
  exact bodyPost_ret (v:=wrV (5,list,0)) (zb8 Tryz.results151 rfl (zcf (oz HB2).2 _ _ _) rfl) rfl ⟨rfl,zaW (oz HB2).1 (Nat.le_refl _) (oz HB2).1.size _ _ _⟩
structure StP (w:World) (BX C:Nat) (l:List (Int × Int)):Prop where
 bx:Blk w BX #[.pointer (some ⟨C,0,none⟩)] 101
 st:SetV w l C
theorem StP.below {w w':World} {BX C:Nat} {l:List (Int × Int)} (h:StP w BX C l) (hb:Below w.heap.size w w'):StP w' BX C l:=⟨h.bx.below hb h.bx.lt,h.st.below hb⟩
theorem zlx {l:List (Int × Int)} (hl:l.length≤1000000) (BX C:Nat) (x1 x2:Int) (w:World) (h:StP w BX C l) :
  Calls Tryz.prog 152 #[.agg #[.int .i32 x1,.int .i64 x2],.pointer (some ⟨BX,0,none⟩)] w fun e w' =>e=.returned (.int .i64 (if zam l x1 then 5 else 0))∧Below w.heap.size w w':=by
 have hB1:Below w.heap.size w (w.alloc (.cells #[.int .i32 x1,.int .i64 x2] 115)):=(Below.refl _ w).alloc (Nat.le_refl _) _
 have b0:=(h.below hB1).bx.cell 0
 have hB2:Below w.heap.size w ((w.alloc (.cells #[.int .i32 x1,.int .i64 x2] 115)).alloc (.cells #[.int .i32 x1] 21)):=hB1.alloc (by simp) _
 have hv:[x1].any (zam l)=zam l x1:=by simp
 have HD:=kz (zdF hl C [x1] (by simp) (some ⟨w.heap.size+1,0,none⟩) 1 ((w.alloc (.cells #[.int .i32 x1,.int .i64 x2] 115)).alloc (.cells #[.int .i32 x1] 21)) (h.below hB2).st (zeA (w.alloc (.cells #[.int .i32 x1,.int .i64 x2] 115)) (w.heap.size+1) x1 21 (by simp)))
 rw [hv] at HD
 have HB:=kz hB2
 clear hB1 hB2 h hv
 generalize zam l x1=bb at *
 go_enter Tryz.func152,Tryz.ntmps152
 go_wp2_with fail
 refine (oz HD).mono ?_
 rintro e w2 ⟨rfl,hb⟩
 have HB2:=kz ((oz HB).trans (hb.mono (oz HB).size))
 clear hb HB HD
 cases bb
 all_goals
  go_wp2_with fail
  go_ret
  exact ⟨rfl,oz HB2⟩
theorem zlw {l:List (Int × Int)} (hl:l.length≤1000000) (BX C:Nat) (x1 x2 x3:Int) (w:World) (h:StP w BX C l) :
  Calls Tryz.prog 154 #[.agg #[.int .i32 x1,.int .i32 x2,.int .i32 x3],.pointer (some ⟨BX,0,none⟩)] w fun e w' =>e=.returned (.int .i64 (if zam l x1 then 5 else 0))∧Below w.heap.size w w':=by
 have hB1:Below w.heap.size w (w.alloc (.cells #[.int .i32 x1,.int .i32 x2,.int .i32 x3] 117)):=(Below.refl _ w).alloc (Nat.le_refl _) _
 have b0:=(h.below hB1).bx.cell 0
 have hB2:Below w.heap.size w ((w.alloc (.cells #[.int .i32 x1,.int .i32 x2,.int .i32 x3] 117)).alloc (.cells #[.int .i32 x1] 21)):=hB1.alloc (by simp) _
 have hv:[x1].any (zam l)=zam l x1:=by simp
 have HD:=kz (zdF hl C [x1] (by simp) (some ⟨w.heap.size+1,0,none⟩) 1 ((w.alloc (.cells #[.int .i32 x1,.int .i32 x2,.int .i32 x3] 117)).alloc (.cells #[.int .i32 x1] 21)) (h.below hB2).st (zeA (w.alloc (.cells #[.int .i32 x1,.int .i32 x2,.int .i32 x3] 117)) (w.heap.size+1) x1 21 (by simp)))
 rw [hv] at HD
 have HB:=kz hB2
 clear hB1 hB2 h hv
 generalize zam l x1=bb at *
 go_enter Tryz.func154,Tryz.ntmps154
 go_wp2_with fail
 refine (oz HD).mono ?_
 rintro e w2 ⟨rfl,hb⟩
 have HB2:=kz ((oz HB).trans (hb.mono (oz HB).size))
 clear hb HB HD
 cases bb
 all_goals
  go_wp2_with fail
  go_ret
  exact ⟨rfl,oz HB2⟩
theorem zlt {l:List (Int × Int)} (hl:l.length≤1000000) (BX C:Nat) (x1 x2:Int) (h1:R32 x1) (hx:x1≤x2) (q:Bool) (hq:q=true ↔ ∃ t,zam l t=true∧x1≤t∧t≤x2) (w:World) (h:StP w BX C l) :
  Calls Tryz.prog 158 #[.agg #[.int .i32 x1,.int .i32 x2],.pointer (some ⟨BX,0,none⟩)] w fun e w' =>e=.returned (.int .i64 (if q then 5 else 0))∧Below w.heap.size w w':=by
 have hB1:Below w.heap.size w (w.alloc (.cells #[.int .i32 x1,.int .i32 x2] 113)):=(Below.refl _ w).alloc (Nat.le_refl _) _
 have b0:=(h.below hB1).bx.cell 0
 have bX:=Blk.new w #[.int .i32 x1,.int .i32 x2] 113
 have q0:=bX.cell 0
 have q1:=bX.cell 1
 have HD:=kz (ze8 hl C x1 x2 h1 hx q hq (w.alloc (.cells #[.int .i32 x1,.int .i32 x2] 113)) (h.below hB1).st)
 have HB:=kz hB1
 clear hB1 h hq h1 hx bX
 go_enter Tryz.func158,Tryz.ntmps158
 go_wp2_with fail
 refine (oz HD).mono ?_
 rintro e w2 ⟨rfl,hb⟩
 have HB2:=kz ((oz HB).trans (hb.mono (oz HB).size))
 clear hb HB HD
 cases q
 all_goals
  go_wp2_with fail
  go_ret
  exact ⟨rfl,oz HB2⟩
theorem zls {l:List (Int × Int)} (hl:l.length≤1000000) (BX C:Nat) (x1 x2:Int) (h1:R32 x1) (hx:x1≤x2) (q:Bool) (hq:q=true ↔ ∃ t,zam l t=true∧x1≤t∧t≤x2) (w:World) (h:StP w BX C l) :
  Calls Tryz.prog 160 #[.agg #[.int .i32 x1,.int .i32 x2],.pointer (some ⟨BX,0,none⟩)] w fun e w' =>e=.returned (.int .i64 (if q then 5 else 0))∧Below w.heap.size w w':=by
 have hB1:Below w.heap.size w (w.alloc (.cells #[.int .i32 x1,.int .i32 x2] 113)):=(Below.refl _ w).alloc (Nat.le_refl _) _
 have b0:=(h.below hB1).bx.cell 0
 have bX:=Blk.new w #[.int .i32 x1,.int .i32 x2] 113
 have q0:=bX.cell 0
 have q1:=bX.cell 1
 have HD:=kz (ze8 hl C x1 x2 h1 hx q hq (w.alloc (.cells #[.int .i32 x1,.int .i32 x2] 113)) (h.below hB1).st)
 have HB:=kz hB1
 clear hB1 h hq h1 hx bX
 go_enter Tryz.func160,Tryz.ntmps160
 go_wp2_with fail
 refine (oz HD).mono ?_
 rintro e w2 ⟨rfl,hb⟩
 have HB2:=kz ((oz HB).trans (hb.mono (oz HB).size))
 clear hb HB HD
 cases q
 all_goals
  go_wp2_with fail
  go_ret
  exact ⟨rfl,oz HB2⟩
def zq6 (P:Nat) (C:Nat) (E:Nat) (x1:Int) (x2:ByteArray) (e1:Int) (e2:Int):Nat→Value→World→Prop
 | 0,v,w =>v=.pointer (some ⟨C,0,none⟩)
 | 1,v,w =>v=.pointer (some ⟨P,0,none⟩)
 | 2,v,w =>v=.int .i32 x1
 | 3,v,w => ∃ g,v=.slice (some ⟨g,0,none⟩) 1 1∧RnC w w.heap.size (some ⟨g,0,none⟩) [x1]
 | 4,v,w =>v=.int .i64 e1
 | 5,v,w =>v=.pointer (some ⟨E,0,none⟩)
 | 6,v,w =>v=.pointer (some ⟨P,1,none⟩)
 | 7,v,w =>v=.string x2
 | 8,v,w => ∃ g c,v=.slice (some ⟨g,0,none⟩) (zak x2).length c∧RnG w g (zak x2)
 | 9,v,w =>v=.int .i64 e2
 | 10,v,w => ∃ g,v=.slice (some ⟨g,0,none⟩) 2 2∧Blk w g #[.int .i64 e1,.int .i64 e2] 74
 | 11,v,w =>v=.int .i64 (orE [e1,e2])
 | _,v,w =>True
def zqw (j:Nat):Bool:=false
theorem zcy {P:Nat} {C:Nat} {E:Nat} {x1:Int} {x2:ByteArray} {e1:Int} {e2:Int} {w w':World} (hb:Below w.heap.size w w'):∀ (j:Nat) (v:Value),zq6 P C E x1 x2 e1 e2 j v w→zq6 P C E x1 x2 e1 e2 j v w'
 | 0,v,h =>h
 | 1,v,h =>h
 | 2,v,h =>h
 | 3,v,h =>let ⟨g,e,h2⟩:=h; ⟨g,e,h2.below hb⟩
 | 4,v,h =>h
 | 5,v,h =>h
 | 6,v,h =>h
 | 7,v,h =>h
 | 8,v,h =>let ⟨g,c,e,h2⟩:=h; ⟨g,c,e,h2.below hb⟩
 | 9,v,h =>h
 | 10,v,h =>let ⟨g,e,h2⟩:=h; ⟨g,e,h2.below hb h2.lt⟩
 | 11,v,h =>h
 | _+12,v,h =>h
theorem zcz {P:Nat} {C:Nat} {E:Nat} {x1:Int} {x2:ByteArray} {e1:Int} {e2:Int} {w:World} (j:Nat) (v:Value) (hm:zqw j=true) (h:zq6 P C E x1 x2 e1 e2 j v w):∀ b,v.ownBlock=some b→b < w.heap.size:=by
 cases hm
theorem zlv {l:List (Int × Int)} (hl:l.length≤1000000) {m:List (Int × Int)} (hm:m.length≤1000000) (BX C BY E:Nat) (x1:Int) (x2:ByteArray) (hz:x2.size≤1048576) (hn:(zak x2).length≤1000000) (w0:World) (h:StP w0 BX C l) (h2:StP w0 BY E m) :
  Calls Tryz.prog 155 #[.agg #[.int .i32 x1,.string x2],.pointer (some ⟨BX,0,none⟩),.pointer (some ⟨BY,0,none⟩)] w0 fun e w' =>e=.returned (.int .i64 (if zam l x1 || (zak x2).any (zam m) then 5 else 0))∧Below w0.heap.size w0 w':=by
 have hmx:Tryz.prog.follows .mixedOrders=true:=by kernel_rfl
 have hB0:Below w0.heap.size w0 (w0.alloc (.cells #[.int .i32 x1,.string x2] 119)).drew:=((Below.refl _ w0).alloc (Nat.le_refl _) _).trans ⟨rfl,rfl,rfl,Nat.le_refl _,fun _ _ =>rfl⟩
 have bX:Blk (w0.alloc (.cells #[.int .i32 x1,.string x2] 119)).drew w0.heap.size #[.int .i32 x1,.string x2] 119:=Blk.new w0 _ _
 have hU:=h.below hB0
 have hU2:=h2.below hB0
 have HF:Hz (∀ w1,Below (w0.alloc (.cells #[.int .i32 x1,.string x2] 119)).drew.heap.size (w0.alloc (.cells #[.int .i32 x1,.string x2] 119)).drew w1→Blk w1 w0.heap.size #[.int .i32 x1,.string x2] 119∧StP w1 BX C l∧StP w1 BY E m):=kz (fun w1 h1 =>⟨bX.below h1 bX.lt,hU.below h1,hU2.below h1⟩)
 have HB:=kz hB0
 have HZ:=kz hz
 have HN:=kz hn
 have HLN:=kz (And.intro hl hm)
 obtain ⟨e1,he1⟩:∃ z:Int,(if [x1].any (zam l) then 5 else 0)=z:=⟨_,rfl⟩
 obtain ⟨e2,he2⟩:∃ z:Int,(if (zak x2).any (zam m) then 5 else 0)=z:=⟨_,rfl⟩
 have HFI:Hz ((if zam l x1 || (zak x2).any (zam m) then 5 else 0:Int)=orE [e1,e2]):=kz (by
  rw [← he1, ← he2,show [x1].any (zam l)=zam l x1 by simp]
  cases zam l x1 <;> cases (zak x2).any (zam m) <;> rfl)
 rw [oz HFI]
 have HE1:=kz he1
 have HE2:=kz he2
 clear hB0 bX hU hU2 h h2 he1 he2 hz hn HFI
 go_enter Tryz.func155,Tryz.ntmps155
 go_wp2_with fail
 generalize (w0.alloc (.cells #[.int .i32 x1,.string x2] 119))=wz at *
 refine zao hmx 12 (by decide) (by kernel_rfl) (by kernel_rfl) (fun l a w => ∃ U:Nat→Value,a = { tmps:=#[.agg #[.int .i32 x1,.string x2],.pointer (some ⟨BX,0,none⟩),.pointer (some ⟨BY,0,none⟩),.pointer (some ⟨w0.heap.size,0,none⟩),.int .i64 0,U 0,U 1,U 2,U 3,U 4,U 5,U 6,U 7,U 8,U 9,U 10,U 11],defers := [] }∧RgJ (wz.drew) (wz.drew.heap.size) (zq6 w0.heap.size C E x1 x2 e1 e2) zqw l U w) ⟨fun _ =>undef,rfl,RgJ.start _ _ (Nat.le_refl _)⟩ ?_ ?_
 ·rintro l a w i ⟨U,rfl,hJ⟩ hl hi hif
  have h0:=(mem_ready.1 hi).1
  have hlt:=zc9 hl h0
  have HJ:=kz hJ
  clear hJ hl
  replace hlt:i < 13:=hlt
  obtain rfl | rfl | rfl | rfl | rfl | rfl | rfl | rfl | rfl | rfl | rfl | rfl:i=0∨i=1∨i=2∨i=3∨i=4∨i=5∨i=6∨i=7∨i=8∨i=9∨i=10∨i=11:=by omega
  ·refine wpOp_step rfl (fun K hK =>?_)
   clear hlt hif
   have q0:=(oz HF w (oz HJ).bel).2.1.bx.cell 0
   go_simp
   exact hK _ _ ⟨zaa U 0 _,rfl,(oz HJ).put 0 _ h0 (Below.refl _ _) (zcy (Below.refl _ _)) rfl zcz (fun h =>absurd h (by decide))⟩
  ·refine wpOp_step rfl (fun K hK =>?_)
   clear hlt hif
   go_simp
   exact hK _ _ ⟨zaa U 1 _,rfl,(oz HJ).put 1 _ h0 (Below.refl _ _) (zcy (Below.refl _ _)) rfl zcz (fun h =>absurd h (by decide))⟩
  ·refine wpOp_step rfl (fun K hK =>?_)
   clear hlt hif
   have d1:U 1=.pointer (some ⟨w0.heap.size,0,none⟩):=(oz HJ).val 1 (zab hi 1 (by kernel_rfl))
   have q1:=(oz HF w (oz HJ).bel).1.cell 0
   go_simp
   exact hK _ _ ⟨zaa U 2 _,(by rw [zac d1];rfl),(oz HJ).put 2 _ h0 (Below.refl _ _) (zcy (Below.refl _ _)) rfl zcz (fun h =>absurd h (by decide))⟩
  ·refine wpOp_step rfl (fun K hK =>?_)
   clear hlt hif
   have d2:U 2=.int .i32 x1:=(oz HJ).val 2 (zab hi 2 (by kernel_rfl))
   go_simp
   exact hK _ _ ⟨zaa U 3 _,(by rw [zac d2];rfl),(oz HJ).put 3 _ h0 ((Below.refl _ _).alloc (Nat.le_refl _) _) (zcy ((Below.refl _ _).alloc (Nat.le_refl _) _)) ⟨_,rfl,zeA w _ x1 _ rfl⟩ zcz (fun h =>absurd h (by decide))⟩
  ·refine wpOp_step rfl (fun K hK =>?_)
   clear hlt hif
   have d0:U 0=.pointer (some ⟨C,0,none⟩):=(oz HJ).val 0 (zab hi 0 (by kernel_rfl))
   obtain ⟨g3,d3,h3⟩:=(oz HJ).val 3 (zab hi 3 (by kernel_rfl))
   go_simp
   refine (zdF (oz HLN).1 C [x1] (by simp) _ _ w (oz HF w (oz HJ).bel).2.1.st h3).mono ?_
   rw [oz HE1]
   rintro e w' ⟨rfl,hb⟩
   exact hK _ _ ⟨zaa U 4 _,(by rw [zac d0,zac d3];rfl),(oz HJ).put 4 _ h0 hb (zcy hb) rfl zcz (fun h =>absurd h (by decide))⟩
  ·refine wpOp_step rfl (fun K hK =>?_)
   clear hlt hif
   have q0:=(oz HF w (oz HJ).bel).2.2.bx.cell 0
   go_simp
   exact hK _ _ ⟨zaa U 5 _,rfl,(oz HJ).put 5 _ h0 (Below.refl _ _) (zcy (Below.refl _ _)) rfl zcz (fun h =>absurd h (by decide))⟩
  ·refine wpOp_step rfl (fun K hK =>?_)
   clear hlt hif
   go_simp
   exact hK _ _ ⟨zaa U 6 _,rfl,(oz HJ).put 6 _ h0 (Below.refl _ _) (zcy (Below.refl _ _)) rfl zcz (fun h =>absurd h (by decide))⟩
  ·refine wpOp_step rfl (fun K hK =>?_)
   clear hlt hif
   have d6:U 6=.pointer (some ⟨w0.heap.size,1,none⟩):=(oz HJ).val 6 (zab hi 6 (by kernel_rfl))
   have q1:=(oz HF w (oz HJ).bel).1.cell 1
   go_simp
   exact hK _ _ ⟨zaa U 7 _,(by rw [zac d6];rfl),(oz HJ).put 7 _ h0 (Below.refl _ _) (zcy (Below.refl _ _)) rfl zcz (fun h =>absurd h (by decide))⟩
  ·refine wpOp_step rfl (fun K hK =>?_)
   clear hlt hif
   have d7:U 7=.string x2:=(oz HJ).val 7 (zab hi 7 (by kernel_rfl))
   go_simp
   refine (zix x2 (oz HZ) _).mono ?_
   rintro e w' ⟨g2,c2,rfl,hg2,hrn,hb⟩
   exact hK _ _ ⟨zaa U 8 _,(by rw [zac d7];rfl),(oz HJ).put 8 _ h0 hb (zcy hb) ⟨g2,c2,rfl,hrn⟩ zcz (fun h =>absurd h (by decide))⟩
  ·refine wpOp_step rfl (fun K hK =>?_)
   clear hlt hif
   have d5:U 5=.pointer (some ⟨E,0,none⟩):=(oz HJ).val 5 (zab hi 5 (by kernel_rfl))
   obtain ⟨g8,c8,d8,h8⟩:=(oz HJ).val 8 (zab hi 8 (by kernel_rfl))
   go_simp
   refine (zdF (oz HLN).2 E (zak x2) (oz HN) _ _ w (oz HF w (oz HJ).bel).2.2.st (zkf h8)).mono ?_
   rw [oz HE2]
   rintro e w' ⟨rfl,hb⟩
   exact hK _ _ ⟨zaa U 9 _,(by rw [zac d5,zac d8];rfl),(oz HJ).put 9 _ h0 hb (zcy hb) rfl zcz (fun h =>absurd h (by decide))⟩
  ·refine wpOp_step rfl (fun K hK =>?_)
   clear hlt hif
   have d4:U 4=.int .i64 e1:=(oz HJ).val 4 (zab hi 4 (by kernel_rfl))
   have d9:U 9=.int .i64 e2:=(oz HJ).val 9 (zab hi 9 (by kernel_rfl))
   go_simp
   exact hK _ _ ⟨zaa U 10 _,(by rw [zac d4,zac d9];rfl),(oz HJ).put 10 _ h0 ((Below.refl _ _).alloc (Nat.le_refl _) _) (zcy ((Below.refl _ _).alloc (Nat.le_refl _) _)) ⟨_,rfl,Blk.new w _ _⟩ zcz (fun h =>absurd h (by decide))⟩
  ·refine wpOp_step rfl (fun K hK =>?_)
   clear hlt hif
   obtain ⟨g10,d10,h10⟩:=(oz HJ).val 10 (zab hi 10 (by kernel_rfl))
   go_simp
   refine (zbo [e1,e2] (by simp) _ 0 _ _ (zfd h10)).mono ?_
   rintro e w' ⟨rfl,rfl⟩
   exact hK _ _ ⟨zaa U 11 _,(by rw [zac d10];rfl),(oz HJ).put 11 _ h0 (Below.refl _ _) (zcy (Below.refl _ _)) rfl zcz (fun h =>absurd h (by decide))⟩
 ·rintro l a w ⟨U,rfl,hJ⟩ hall
  have d11:U 11=.int .i64 (orE [e1,e2]):=hJ.val 11 (hall 11 (by decide) (by decide))
  have HBJ:=kz ((oz HB).trans (hJ.bel.mono (oz HB).size))
  clear hJ hall
  refine wpOp_step rfl (fun K hK =>?_)
  obtain ⟨zz,hzz⟩:∃ zz,orE [e1,e2]=zz:=⟨_,rfl⟩
  rw [hzz] at d11
  have HZZ:=kz hzz
  clear hzz
  go_simp
  refine hK _ _ ?_
  clear hK
  go_wp2_with fail
  go_ret
  exact ⟨by rw [oz HZZ];rfl,oz HBJ⟩
def zq5 (P:Nat) (C:Nat) (E:Nat) (x1:Int) (x2:ByteArray) (e1:Int) (e2:Int):Nat→Value→World→Prop
 | 0,v,w =>v=.pointer (some ⟨C,0,none⟩)
 | 1,v,w =>v=.pointer (some ⟨P,0,none⟩)
 | 2,v,w =>v=.int .i32 x1
 | 3,v,w => ∃ g,v=.slice (some ⟨g,0,none⟩) 1 1∧RnC w w.heap.size (some ⟨g,0,none⟩) [x1]
 | 4,v,w =>v=.int .i64 e1
 | 5,v,w =>v=.pointer (some ⟨C,0,none⟩)
 | 6,v,w =>v=.pointer (some ⟨P,1,none⟩)
 | 7,v,w =>v=.string x2
 | 8,v,w => ∃ g c,v=.slice (some ⟨g,0,none⟩) (zak x2).length c∧RnG w g (zak x2)
 | 9,v,w =>v=.int .i64 e2
 | 10,v,w => ∃ g,v=.slice (some ⟨g,0,none⟩) 2 2∧Blk w g #[.int .i64 e1,.int .i64 e2] 74
 | 11,v,w =>v=.int .i64 (orE [e1,e2])
 | _,v,w =>True
def zqv (j:Nat):Bool:=false
theorem zcw {P:Nat} {C:Nat} {E:Nat} {x1:Int} {x2:ByteArray} {e1:Int} {e2:Int} {w w':World} (hb:Below w.heap.size w w'):∀ (j:Nat) (v:Value),zq5 P C E x1 x2 e1 e2 j v w→zq5 P C E x1 x2 e1 e2 j v w'
 | 0,v,h =>h
 | 1,v,h =>h
 | 2,v,h =>h
 | 3,v,h =>let ⟨g,e,h2⟩:=h; ⟨g,e,h2.below hb⟩
 | 4,v,h =>h
 | 5,v,h =>h
 | 6,v,h =>h
 | 7,v,h =>h
 | 8,v,h =>let ⟨g,c,e,h2⟩:=h; ⟨g,c,e,h2.below hb⟩
 | 9,v,h =>h
 | 10,v,h =>let ⟨g,e,h2⟩:=h; ⟨g,e,h2.below hb h2.lt⟩
 | 11,v,h =>h
 | _+12,v,h =>h
theorem zcx {P:Nat} {C:Nat} {E:Nat} {x1:Int} {x2:ByteArray} {e1:Int} {e2:Int} {w:World} (j:Nat) (v:Value) (hm:zqv j=true) (h:zq5 P C E x1 x2 e1 e2 j v w):∀ b,v.ownBlock=some b→b < w.heap.size:=by
 cases hm
theorem zlu {l:List (Int × Int)} (hl:l.length≤1000000) (BX C:Nat) (x1:Int) (x2:ByteArray) (hz:x2.size≤1048576) (hn:(zak x2).length≤1000000) (w0:World) (h:StP w0 BX C l) :
  Calls Tryz.prog 156 #[.agg #[.int .i32 x1,.string x2],.pointer (some ⟨BX,0,none⟩)] w0 fun e w' =>e=.returned (.int .i64 (if zam l x1 || (zak x2).any (zam l) then 5 else 0))∧Below w0.heap.size w0 w':=by
 have hmx:Tryz.prog.follows .mixedOrders=true:=by kernel_rfl
 have hB0:Below w0.heap.size w0 (w0.alloc (.cells #[.int .i32 x1,.string x2] 119)).drew:=((Below.refl _ w0).alloc (Nat.le_refl _) _).trans ⟨rfl,rfl,rfl,Nat.le_refl _,fun _ _ =>rfl⟩
 have bX:Blk (w0.alloc (.cells #[.int .i32 x1,.string x2] 119)).drew w0.heap.size #[.int .i32 x1,.string x2] 119:=Blk.new w0 _ _
 have hU:=h.below hB0
 have hU2:=h.below hB0
 have HF:Hz (∀ w1,Below (w0.alloc (.cells #[.int .i32 x1,.string x2] 119)).drew.heap.size (w0.alloc (.cells #[.int .i32 x1,.string x2] 119)).drew w1→Blk w1 w0.heap.size #[.int .i32 x1,.string x2] 119∧StP w1 BX C l∧StP w1 BX C l):=kz (fun w1 h1 =>⟨bX.below h1 bX.lt,hU.below h1,hU2.below h1⟩)
 have HB:=kz hB0
 have HZ:=kz hz
 have HN:=kz hn
 have HLN:=kz (And.intro hl hl)
 obtain ⟨e1,he1⟩:∃ z:Int,(if [x1].any (zam l) then 5 else 0)=z:=⟨_,rfl⟩
 obtain ⟨e2,he2⟩:∃ z:Int,(if (zak x2).any (zam l) then 5 else 0)=z:=⟨_,rfl⟩
 have HFI:Hz ((if zam l x1 || (zak x2).any (zam l) then 5 else 0:Int)=orE [e1,e2]):=kz (by
  rw [← he1, ← he2,show [x1].any (zam l)=zam l x1 by simp]
  cases zam l x1 <;> cases (zak x2).any (zam l) <;> rfl)
 rw [oz HFI]
 have HE1:=kz he1
 have HE2:=kz he2
 clear hB0 bX hU hU2 h he1 he2 hz hn HFI
 go_enter Tryz.func156,Tryz.ntmps156
 go_wp2_with fail
 generalize (w0.alloc (.cells #[.int .i32 x1,.string x2] 119))=wz at *
 refine zao hmx 12 (by decide) (by kernel_rfl) (by kernel_rfl) (fun l a w => ∃ U:Nat→Value,a = { tmps:=#[.agg #[.int .i32 x1,.string x2],.pointer (some ⟨BX,0,none⟩),.pointer (some ⟨w0.heap.size,0,none⟩),.int .i64 0,U 0,U 1,U 2,U 3,U 4,U 5,U 6,U 7,U 8,U 9,U 10,U 11],defers := [] }∧RgJ (wz.drew) (wz.drew.heap.size) (zq5 w0.heap.size C C x1 x2 e1 e2) zqv l U w) ⟨fun _ =>undef,rfl,RgJ.start _ _ (Nat.le_refl _)⟩ ?_ ?_
 ·rintro l a w i ⟨U,rfl,hJ⟩ hl hi hif
  have h0:=(mem_ready.1 hi).1
  have hlt:=zc9 hl h0
  have HJ:=kz hJ
  clear hJ hl
  replace hlt:i < 13:=hlt
  obtain rfl | rfl | rfl | rfl | rfl | rfl | rfl | rfl | rfl | rfl | rfl | rfl:i=0∨i=1∨i=2∨i=3∨i=4∨i=5∨i=6∨i=7∨i=8∨i=9∨i=10∨i=11:=by omega
  ·refine wpOp_step rfl (fun K hK =>?_)
   clear hlt hif
   have q0:=(oz HF w (oz HJ).bel).2.1.bx.cell 0
   go_simp
   exact hK _ _ ⟨zaa U 0 _,rfl,(oz HJ).put 0 _ h0 (Below.refl _ _) (zcw (Below.refl _ _)) rfl zcx (fun h =>absurd h (by decide))⟩
  ·refine wpOp_step rfl (fun K hK =>?_)
   clear hlt hif
   go_simp
   exact hK _ _ ⟨zaa U 1 _,rfl,(oz HJ).put 1 _ h0 (Below.refl _ _) (zcw (Below.refl _ _)) rfl zcx (fun h =>absurd h (by decide))⟩
  ·refine wpOp_step rfl (fun K hK =>?_)
   clear hlt hif
   have d1:U 1=.pointer (some ⟨w0.heap.size,0,none⟩):=(oz HJ).val 1 (zab hi 1 (by kernel_rfl))
   have q1:=(oz HF w (oz HJ).bel).1.cell 0
   go_simp
   exact hK _ _ ⟨zaa U 2 _,(by rw [zac d1];rfl),(oz HJ).put 2 _ h0 (Below.refl _ _) (zcw (Below.refl _ _)) rfl zcx (fun h =>absurd h (by decide))⟩
  ·refine wpOp_step rfl (fun K hK =>?_)
   clear hlt hif
   have d2:U 2=.int .i32 x1:=(oz HJ).val 2 (zab hi 2 (by kernel_rfl))
   go_simp
   exact hK _ _ ⟨zaa U 3 _,(by rw [zac d2];rfl),(oz HJ).put 3 _ h0 ((Below.refl _ _).alloc (Nat.le_refl _) _) (zcw ((Below.refl _ _).alloc (Nat.le_refl _) _)) ⟨_,rfl,zeA w _ x1 _ rfl⟩ zcx (fun h =>absurd h (by decide))⟩
  ·refine wpOp_step rfl (fun K hK =>?_)
   clear hlt hif
   have d0:U 0=.pointer (some ⟨C,0,none⟩):=(oz HJ).val 0 (zab hi 0 (by kernel_rfl))
   obtain ⟨g3,d3,h3⟩:=(oz HJ).val 3 (zab hi 3 (by kernel_rfl))
   go_simp
   refine (zdF (oz HLN).1 C [x1] (by simp) _ _ w (oz HF w (oz HJ).bel).2.1.st h3).mono ?_
   rw [oz HE1]
   rintro e w' ⟨rfl,hb⟩
   exact hK _ _ ⟨zaa U 4 _,(by rw [zac d0,zac d3];rfl),(oz HJ).put 4 _ h0 hb (zcw hb) rfl zcx (fun h =>absurd h (by decide))⟩
  ·refine wpOp_step rfl (fun K hK =>?_)
   clear hlt hif
   have q0:=(oz HF w (oz HJ).bel).2.2.bx.cell 0
   go_simp
   exact hK _ _ ⟨zaa U 5 _,rfl,(oz HJ).put 5 _ h0 (Below.refl _ _) (zcw (Below.refl _ _)) rfl zcx (fun h =>absurd h (by decide))⟩
  ·refine wpOp_step rfl (fun K hK =>?_)
   clear hlt hif
   go_simp
   exact hK _ _ ⟨zaa U 6 _,rfl,(oz HJ).put 6 _ h0 (Below.refl _ _) (zcw (Below.refl _ _)) rfl zcx (fun h =>absurd h (by decide))⟩
  ·refine wpOp_step rfl (fun K hK =>?_)
   clear hlt hif
   have d6:U 6=.pointer (some ⟨w0.heap.size,1,none⟩):=(oz HJ).val 6 (zab hi 6 (by kernel_rfl))
   have q1:=(oz HF w (oz HJ).bel).1.cell 1
   go_simp
   exact hK _ _ ⟨zaa U 7 _,(by rw [zac d6];rfl),(oz HJ).put 7 _ h0 (Below.refl _ _) (zcw (Below.refl _ _)) rfl zcx (fun h =>absurd h (by decide))⟩
  ·refine wpOp_step rfl (fun K hK =>?_)
   clear hlt hif
   have d7:U 7=.string x2:=(oz HJ).val 7 (zab hi 7 (by kernel_rfl))
   go_simp
   refine (zix x2 (oz HZ) _).mono ?_
   rintro e w' ⟨g2,c2,rfl,hg2,hrn,hb⟩
   exact hK _ _ ⟨zaa U 8 _,(by rw [zac d7];rfl),(oz HJ).put 8 _ h0 hb (zcw hb) ⟨g2,c2,rfl,hrn⟩ zcx (fun h =>absurd h (by decide))⟩
  ·refine wpOp_step rfl (fun K hK =>?_)
   clear hlt hif
   have d5:U 5=.pointer (some ⟨C,0,none⟩):=(oz HJ).val 5 (zab hi 5 (by kernel_rfl))
   obtain ⟨g8,c8,d8,h8⟩:=(oz HJ).val 8 (zab hi 8 (by kernel_rfl))
   go_simp
   refine (zdF (oz HLN).2 C (zak x2) (oz HN) _ _ w (oz HF w (oz HJ).bel).2.2.st (zkf h8)).mono ?_
   rw [oz HE2]
   rintro e w' ⟨rfl,hb⟩
   exact hK _ _ ⟨zaa U 9 _,(by rw [zac d5,zac d8];rfl),(oz HJ).put 9 _ h0 hb (zcw hb) rfl zcx (fun h =>absurd h (by decide))⟩
  ·refine wpOp_step rfl (fun K hK =>?_)
   clear hlt hif
   have d4:U 4=.int .i64 e1:=(oz HJ).val 4 (zab hi 4 (by kernel_rfl))
   have d9:U 9=.int .i64 e2:=(oz HJ).val 9 (zab hi 9 (by kernel_rfl))
   go_simp
   exact hK _ _ ⟨zaa U 10 _,(by rw [zac d4,zac d9];rfl),(oz HJ).put 10 _ h0 ((Below.refl _ _).alloc (Nat.le_refl _) _) (zcw ((Below.refl _ _).alloc (Nat.le_refl _) _)) ⟨_,rfl,Blk.new w _ _⟩ zcx (fun h =>absurd h (by decide))⟩
  ·refine wpOp_step rfl (fun K hK =>?_)
   clear hlt hif
   obtain ⟨g10,d10,h10⟩:=(oz HJ).val 10 (zab hi 10 (by kernel_rfl))
   go_simp
   refine (zbo [e1,e2] (by simp) _ 0 _ _ (zfd h10)).mono ?_
   rintro e w' ⟨rfl,rfl⟩
   exact hK _ _ ⟨zaa U 11 _,(by rw [zac d10];rfl),(oz HJ).put 11 _ h0 (Below.refl _ _) (zcw (Below.refl _ _)) rfl zcx (fun h =>absurd h (by decide))⟩
 ·rintro l a w ⟨U,rfl,hJ⟩ hall
  have d11:U 11=.int .i64 (orE [e1,e2]):=hJ.val 11 (hall 11 (by decide) (by decide))
  have HBJ:=kz ((oz HB).trans (hJ.bel.mono (oz HB).size))
  clear hJ hall
  refine wpOp_step rfl (fun K hK =>?_)
  obtain ⟨zz,hzz⟩:∃ zz,orE [e1,e2]=zz:=⟨_,rfl⟩
  rw [hzz] at d11
  have HZZ:=kz hzz
  clear hzz
  go_simp
  refine hK _ _ ?_
  clear hK
  go_wp2_with fail
  go_ret
  exact ⟨by rw [oz HZZ];rfl,oz HBJ⟩
def zlJ:List (Int × Int) := [(0,127)]++[(65533,65533)]
def znz:List (Int × Int) := [(0,64),(91,127),(65533,65533),(65533,65533)]
def zpB:List (Int × Int) := [(0,31),(45,46),(65533,65533)]
def zqW:List (Int × Int) := [(45,46),(48,57)]
def znD:List (Int × Int) := [(45,45),(48,57),(97,122)]
def zqs:List (Int × Int) := [(0,44),(46,47),(58,96),(123,127),(123,127)]
theorem zkq {r:Int} (h:zan r=true):zam zlJ r=zfO r:=by
 have:=zaZ h
 unfold zam zfO zlJ
 rw [h,Bool.and_true,Bool.eq_iff_iff]
 simp
 omega
theorem zqu {r:Int} (h:zan r=true):zam znz r=(zfO r && decide (r < 65∨90 < r)):=by
 have:=zaZ h
 unfold zam zfO znz
 rw [h,Bool.and_true,Bool.eq_iff_iff]
 simp
 omega
theorem zl6 {r:Int} (h:zan r=true):zam zpB r=ziv r:=by
 have:=zaZ h
 unfold zam ziv zpB
 rw [h,Bool.and_true,Bool.eq_iff_iff]
 simp
 omega
theorem znx (s:ByteArray):(zak s).any (zam zpB)=zeC s:=by
 unfold zeC
 rw [Bool.eq_iff_iff,List.any_eq_true,List.any_eq_true]
 constructor
 ·rintro ⟨x,hx,e⟩
  exact ⟨x,hx,by rw [← zl6 (zfo hx)];exact e⟩
 ·rintro ⟨x,hx,e⟩
  exact ⟨x,hx,by rw [zl6 (zfo hx)];exact e⟩
theorem zpt (r:Int):zam znz r=(zam zlJ r && !zam [(65,90)] r):=by
 unfold zam znz zlJ
 cases zan r with
 | false =>simp
 | true =>
  rw [Bool.and_true,Bool.and_true,Bool.and_true,Bool.eq_iff_iff]
  simp
  omega
theorem zjC (r:Int):zam zqs r=(zam [(0,127)] r && !zam znD r):=by
 unfold zam zqs znD
 cases zan r with
 | false =>simp
 | true =>
  rw [Bool.and_true,Bool.and_true,Bool.and_true,Bool.eq_iff_iff]
  simp
  omega
theorem zhc {r:Int} (h0:0≤r) (h1:r≤127):zan r=true:=by
 unfold zan
 simp
 omega
theorem zk9 {x:Int × Int} (h1:zan x.1=true) (h:x.1≤x.2):decide (x.1 < 128∨(x.1≤65533∧65533≤x.2))=true ↔ ∃ t,zam zlJ t=true∧x.1≤t∧t≤x.2:=by
 have hr:=zaZ h1
 rw [decide_eq_true_eq]
 constructor
 ·rintro (c | c)
  ·exact ⟨x.1,by rw [zkq h1];simp [zfO,c],Int.le_refl _,h⟩
  ·exact ⟨65533,by decide,c.1,c.2⟩
 ·rintro ⟨t,ht,h2,h3⟩
  have hrt:=((zaD zlJ t).1 ht).2
  rw [zkq hrt] at ht
  simp [zfO] at ht
  omega
theorem zp1 (k:Int):zi9 k=true ↔ k=45∨(48≤k∧k≤57)∨(97≤k∧k≤122):=by
 unfold zi9
 rw [decide_eq_true_eq]
theorem zmY {r:Int} (h:zan r=true):zam znD r=zi9 r:=by
 unfold zam znD
 rw [h,Bool.and_true,Bool.eq_iff_iff,zp1]
 simp
 omega
theorem zk6 {x:Int × Int}:(List.range 128).any (fun k =>decide (x.1≤(k:Int)∧(k:Int)≤x.2) && !zi9 k)=true ↔ ∃ t,zam zqs t=true∧x.1≤t∧t≤x.2:=by
 rw [List.any_eq_true]
 constructor
 ·rintro ⟨k,hk,e⟩
  rw [Bool.and_eq_true,decide_eq_true_eq] at e
  have hk:=List.mem_range.1 hk
  have hr:zan (k:Int)=true:=zhc (by omega) (by omega)
  refine ⟨k, ?_,e.1.1,e.1.2⟩
  rw [zjC,zmY hr,e.2,Bool.and_true,zaD]
  exact ⟨⟨(0,127),by simp,by dsimp only;omega,by dsimp only;omega⟩,hr⟩
 ·rintro ⟨t,ht,h2,h3⟩
  rw [zjC,Bool.and_eq_true] at ht
  obtain ⟨ha,hb⟩:=ht
  obtain ⟨⟨y,hy,h4,h5⟩,hr⟩:=(zaD _ _).1 ha
  obtain rfl:y=(0,127):=by simpa using hy
  dsimp only at h4 h5
  refine ⟨t.toNat,List.mem_range.2 (by omega), ?_⟩
  rw [show ((t.toNat:Nat):Int)=t by omega, ← zmY hr,hb,Bool.and_true,decide_eq_true_eq]
  exact ⟨h2,h3⟩
theorem zqi {r:Int} (h:zam zqW r=true):r ∈ comL:=by
 obtain ⟨⟨y,hy,h4,h5⟩,hr⟩:=(zaD _ _).1 h
 simp [zqW] at hy
 rcases hy with rfl | rfl
 all_goals
  dsimp only at h4 h5
  simp [comL]
  omega
theorem zo4 (l:List (Int × Int)):comL.all (fun r =>zam l r)=true ↔ ∀ r,zam zqW r=true→zam l r=true:=by
 rw [List.all_eq_true]
 constructor
 ·intro h r hr
  exact h r (zqi hr)
 ·intro h r hr
  refine h r ?_
  simp [comL] at hr
  rcases hr with rfl | rfl | rfl | rfl | rfl | rfl | rfl | rfl | rfl | rfl | rfl | rfl
  all_goals decide
theorem zoU {r:Int} (h:zam znD r=true):r ∈ labL:=by
 obtain ⟨⟨y,hy,h4,h5⟩,hr⟩:=(zaD _ _).1 h
 unfold labL
 rw [List.mem_append]
 simp [znD] at hy
 rcases hy with rfl | rfl | rfl
 ·dsimp only at h4 h5
  refine .inl ?_
  simp
  omega
 ·dsimp only at h4 h5
  refine .inl ?_
  simp
  omega
 ·dsimp only at h4 h5
  refine .inr (List.mem_map.2 ⟨(r - 97).toNat,List.mem_range.2 (by omega),by omega⟩)
theorem zoV (l:List (Int × Int)):labL.all (fun r =>zam l r)=true ↔ ∀ r,zam znD r=true→zam l r=true:=by
 rw [List.all_eq_true]
 constructor
 ·intro h r hr
  exact h r (zoU hr)
 ·intro h r hr
  refine h r ?_
  unfold labL at hr
  rw [List.mem_append] at hr
  rcases hr with hr | hr
  ·simp at hr
   rcases hr with rfl | rfl | rfl | rfl | rfl | rfl | rfl | rfl | rfl | rfl | rfl
   all_goals decide
  ·obtain ⟨k,hk,rfl⟩:=List.mem_map.1 hr
   have:=List.mem_range.1 hk
   rw [zaD]
   exact ⟨⟨(97,122),by simp [znD],by dsimp only;omega,by dsimp only;omega⟩,zhc (by omega) (by omega)⟩
theorem zq0 {w:World} {g:Nat} {l:List (Int × Int)} {cs:Array Value} {t:TypeId} (b:Blk w g cs t) (e:cs=(zaQ l).toArray):RowC w w.heap.size (some ⟨g,0,none⟩) (zaQ l):=fun _ =>⟨g,0,rfl,b.lt,fun j v hv =>by
 rw [Nat.zero_add,b.cell j,e,List.getElem?_toArray]
 exact hv⟩
theorem zcN (l:List (Int × Int)) (n:Nat) (hn:n=l.length) (hl:l.length≤10) (hR:za8 l) (g:Nat) (cs:Array Value) (t:TypeId) (w:World) (b:Blk w g cs t) (e:cs=(zaQ l).toArray) :
  Calls Tryz.prog 75 #[.slice (some ⟨g,0,none⟩) n n] w fun e w' => ∃ (B:Nat),e=.returned (.pointer (some ⟨B,0,none⟩))∧SetV w' l B∧Below w.heap.size w w':=by
 subst hn
 exact zdr _ _ l (by omega) hR w (zdJ (zq0 b e) (Nat.le_refl _))
theorem zkD {l1 l2:List (Int × Int)} {C1 C2:Nat} {w:World} (n1:l1.length≤5000) (n2:l2.length≤5000) (h1:SetV w l1 C1) (h2:SetV w l2 C2) :
  Calls Tryz.prog 149 #[.pointer (some ⟨C1,0,none⟩),.pointer (some ⟨C2,0,none⟩)] w fun e w' => ∃ (B:Nat),e=.returned (.pointer (some ⟨B,0,none⟩))∧SetV w' (l1++l2) B∧Below w.heap.size w w':=by
 obtain ⟨zs,lo1,a1,a2,a3,a4⟩:=h1
 obtain ⟨ys,lo2,b1,b2,b3,b4⟩:=h2
 refine (zlR C1 (some ⟨C2,0,none⟩) zs ys (by omega) (by omega) w (a1.set a2 (by omega)) (.inr ⟨C2,rfl,b1.set b2 (by omega)⟩)).mono ?_
 rintro e w' ⟨B',lo0,us,rfl,_,u1,u2,u3,u4,hb⟩
 exact ⟨B',rfl,⟨us,lo0,u1,u2,by rw [List.length_append];omega,fun r =>by rw [u4,a4,b4,zby]⟩,hb⟩
theorem zhk {l1 l2 l:List (Int × Int)} {C1 C2:Nat} {w:World} (n1:l1.length≤2000) (n2:l2.length≤2000) (hl:l1.length+l2.length+1≤l.length) (hm:∀ r,zam l r=(zam l1 r && !zam l2 r)) (h1:SetV w l1 C1) (h2:SetV w l2 C2) :
  Calls Tryz.prog 150 #[.pointer (some ⟨C1,0,none⟩),.pointer (some ⟨C2,0,none⟩)] w fun e w' => ∃ (B:Nat),e=.returned (.pointer (some ⟨B,0,none⟩))∧SetV w' l B∧Below w.heap.size w w':=by
 obtain ⟨zs,lo1,a1,a2,a3,a4⟩:=h1
 obtain ⟨ys,lo2,b1,b2,b3,b4⟩:=h2
 refine (ziM C1 (some ⟨C2,0,none⟩) zs ys (by omega) (by omega) w (a1.set a2 (by omega)) (.inr ⟨C2,rfl,b1.set b2 (by omega)⟩)).mono ?_
 rintro e w' ⟨B',lo0,us,rfl,_,u1,u2,u3,u4,hb⟩
 exact ⟨B',rfl,⟨us,lo0,u1,u2,by omega,fun r =>by rw [u4,a4,b4,hm]⟩,hb⟩
end
end Go.Proofs.YtmemedpoaocdkaaGreat
