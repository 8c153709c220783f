/- Texts of this claim, one behind the other. -/
import Derived.Test.YtmemedpoaocdkaaGreatM26
import Derived.Test.YtmemedpoaocdkaaGreatM27
/- How many runes a set has, counted rune by rune. -/
namespace Go.Proofs.YtmemedpoaocdkaaGreat
open Go.RowKit Go.Shelf
set_option linter.unusedVariables false
def ziI (b:Bool):Int:=if b then 1 else 0
def zdX (x:Int × Int) (r:Int):Int:=if x.1 < r then min (zae r) (zae x.2+1) - zae x.1 else 0
theorem zee (x:Int × Int) (zs:List (Int × Int)) (r:Int):zav (x::zs) r=zdX x r+zav zs r:=rfl
theorem zkZ (r:Int):zae (r+1)=zae r+(if r < 55296∨57343 < r then 1 else 0):=by
 unfold zae
 repeat' split
 all_goals omega
theorem zjp {a b:Int} (h:a≤b):zae a≤zae b:=by
 unfold zae
 repeat' split
 all_goals omega
theorem zgC {x:Int × Int} (he:zaW x=true) (hx:x.1≤x.2) (r:Int):zdX x (r+1)=zdX x r+ziI (decide (x.1≤r∧r≤x.2) && zan r):=by
 have e:=zar he
 have hs:=zkZ r
 unfold zdX ziI
 by_cases h1:x.1 < r
 ·rw [if_pos h1,if_pos (by omega)]
  by_cases h2:r≤x.2
  ·have m1:=zjp h2
   by_cases h3:r < 55296∨57343 < r
   ·rw [if_pos h3] at hs
    have hb:(decide (x.1≤r∧r≤x.2) && zan r)=true:=by unfold zan;simp;omega
    rw [hb]
    simp only [if_true]
    omega
   ·rw [if_neg h3] at hs
    have hb:(decide (x.1≤r∧r≤x.2) && zan r)=false:=by unfold zan;simp;omega
    rw [hb]
    simp only [Bool.false_eq_true,if_false]
    omega
  ·have m1:=zch (a:=x.2) (b:=r) (by omega) (by omega)
   have m2:=zch (a:=x.2) (b:=r+1) (by omega) (by omega)
   have hb:(decide (x.1≤r∧r≤x.2) && zan r)=false:=by simp;omega
   rw [hb]
   simp only [Bool.false_eq_true,if_false]
   omega
 ·rw [if_neg h1]
  by_cases h2:x.1=r
  ·subst h2
   rw [if_pos (by omega)]
   rw [if_pos (by omega)] at hs
   have hb:(decide (x.1≤x.1∧x.1≤x.2) && zan x.1)=true:=by unfold zan;simp;omega
   rw [hb]
   have m1:=zjp hx
   simp only [if_true]
   omega
  ·rw [if_neg (by omega)]
   have hb:(decide (x.1≤r∧r≤x.2) && zan r)=false:=by simp;omega
   rw [hb]
   simp
theorem zed:∀ (zs:List (Int × Int)) (r:Int),Spread zs→zav zs (r+1)=zav zs r+ziI (zal zs r)
 | [],r,_ =>by simp [zav,zal,ziI]
 | x::zs,r,h =>by
  have he:=h.ends x List.mem_cons_self
  have hs:=zgC he.1 he.2 r
  have ht:=zed zs r h.tail
  rw [zee,zee,hs,ht]
  have hc:zal (x::zs) r=((decide (x.1≤r∧r≤x.2) && zan r) || zal zs r):=by
   unfold zal
   simp only [List.any_cons,Bool.and_or_distrib_right]
  rw [hc]
  by_cases hd:(decide (x.1≤r∧r≤x.2) && zan r)=true
  ·have hz:zal zs r=false:=by
    rw [← Bool.not_eq_true]
    intro hm
    obtain ⟨⟨y,hy,p,q⟩,_⟩:=(zay _ _).1 hm
    have:=h.head_lt hy
    simp at hd
    omega
   rw [hd,hz]
   simp [ziI]
   omega
  ·rw [Bool.not_eq_true] at hd
   rw [hd,Bool.false_or]
   simp [ziI]
   omega
theorem zgt:∀ (zs:List (Int × Int)),Spread zs→zav zs 1114112=total zs
 | [],_ =>rfl
 | x::zs,h =>by
  have he:=h.ends x List.mem_cons_self
  have e:=zar he.1
  have m1:=zch (a:=x.2) (b:=1114112) (by omega) (by omega)
  rw [zee,zce,zgt zs h.tail]
  unfold zdX zaH
  rw [if_pos (by omega)]
  omega
theorem zjK {zs:List (Int × Int)} (h:Spread zs):(total zs == 0)=decide (zs=[]):=by
 cases zs with
 | nil =>rfl
 | cons x zs =>
  have he:=h.ends x List.mem_cons_self
  have p:=zhc he.1 he.2
  have q:=(zcM h.tail.ends).1
  have:total (x::zs)≠0:=by rw [zce];omega
  simp [this]
theorem zfz:∀ (zs:List (Int × Int)) (r:Int),za0 zs→0≤zav zs r
 | [],r,_ =>by simp [zav]
 | x::zs,r,hR =>by
  have ih:=zfz zs r (fun z hz =>hR z (List.mem_cons_of_mem _ hz))
  have hx:=hR x List.mem_cons_self
  have he:=zar hx.1
  have hrk:=(zbM he.1.2.2 he.2.2.2).2 hx.2
  show 0≤(if x.1 < r then _ else 0)+zav zs r
  split
  ·rename_i h
   have:=zch he.1.2.2 h
   omega
  ·omega
end Go.Proofs.YtmemedpoaocdkaaGreat
namespace Go.Proofs.YtmemedpoaocdkaaGreat
open Go.RowKit Go.Shelf Go.Maps
set_option linter.unusedVariables false
theorem zla (b:Bool):0≤ziI b:=by cases b <;> decide
theorem zg8 {zs:List (Int × Int)} (h:Spread zs) (a:Int):∀ n:Nat,zav zs a≤zav zs (a+n)
 | 0 =>by simp
 | n+1 =>by
  have h1:=zg8 h a n
  have h2:=zed zs (a+n) h
  have h3:=zla (zal zs (a+n))
  rw [show a+((n+1:Nat):Int)=a+n+1 by omega,h2]
  omega
theorem zfV {zs:List (Int × Int)} (h:Spread zs) {a b:Int} (hab:a≤b):zav zs a≤zav zs b:=by
 have:=zg8 h a (b - a).toNat
 rwa [show a+((b - a).toNat:Int)=b by omega] at this
theorem zi2 {zs:List (Int × Int)} (h:Spread zs) (r hi:Int) (hr:zal zs r=false):(decide (0≤zav zs r∧zav zs r < total zs) && decide (zbN zs (zav zs r)≤hi))=true ↔ ∃ t,zal zs t=true∧r≤t∧t≤hi:=by
 have h0:=zfz zs r h.ends
 constructor
 ·intro hq
  rw [Bool.and_eq_true,decide_eq_true_eq,decide_eq_true_eq] at hq
  obtain ⟨⟨_,h1⟩,h2⟩:=hq
  obtain ⟨m1,m2,m3,_⟩:=zld h h0 h1
  refine ⟨_,m1, ?_,h2⟩
  rcases Int.lt_or_le (zbN zs (zav zs r)) r with c | c
  ·have:=zfV h (show zbN zs (zav zs r)+1≤r by omega)
   omega
  ·exact c
 ·rintro ⟨t,m,ht,hth⟩
  have hs:zav zs (t+1)=zav zs t+1:=by rw [zed zs t h,m];rfl
  have h1:=zfV h ht
  have hlt:zav zs r < total zs:=by
   have h2:=zgt zs h
   have h3:t≤1114111:=(zaR ((zay zs t).1 m).2).2.1
   have h4:=zfV h (show t+1≤1114112 by omega)
   omega
  rw [Bool.and_eq_true,decide_eq_true_eq,decide_eq_true_eq]
  refine ⟨⟨h0,hlt⟩, ?_⟩
  obtain ⟨m1,m2,m3,_⟩:=zld h h0 hlt
  rcases Int.lt_or_le t (zbN zs (zav zs r)) with c | c
  ·have:=zfV h (show t+1≤zbN zs (zav zs r) by omega)
   omega
  ·omega
theorem zjE (zs:List (Int × Int)) (n:Int):∃ v ok,zl7 zs n=.tuple #[.int .i32 v,.bool ok]∧ok=decide (0≤n∧n < total zs)∧(ok=true→v=zbN zs n):=by
 unfold zl7
 by_cases h:0≤n∧n < total zs
 ·rw [if_pos h]
  exact ⟨_,_,rfl,by simp [h],fun _ =>rfl⟩
 ·rw [if_neg h]
  exact ⟨_,_,rfl,by simp [h],fun q =>by cases q⟩
set_option maxRecDepth 100000 in
set_option maxHeartbeats 4000000 in
theorem ze5 {l:List (Int × Int)} (hl:l.length≤1000000) (C:Nat) (x1 x2:Int) (h1:R32 x1) (hx:x1≤x2) (q:Bool) (hq:q=true ↔ ∃ t,zal l t=true∧x1≤t∧t≤x2) (w:World) (h:SetV w l C) :
  Calls Tryz.prog 159 #[.pointer (some ⟨C,0,none⟩),.agg #[.int .i32 x1,.int .i32 x2]] w fun e w' =>e=.returned (.int .i64 (if q then 5 else 0))∧Below w.heap.size w w':=by
 have hB:Below w.heap.size w (w.alloc (.cells #[.int .i32 x1,.int .i32 x2] 113)):=(Below.refl _ w).alloc (Nat.le_refl _) _
 have bX:=Blk.new w #[.int .i32 x1,.int .i32 x2] 113
 have hV:=h.below hB
 obtain ⟨zs,lo0,m1,m2,m3,m4⟩:=hV
 have hA:=m1.set m2 (by omega)
 have HI:=kz (fun w1 (hb:Below (w.alloc (.cells #[.int .i32 x1,.int .i32 x2] 113)).heap.size (w.alloc (.cells #[.int .i32 x1,.int .i32 x2] 113)) w1) =>zjx C zs x1 w1 ((m1.below hb).set m2 (by omega)))
 have HX:=kz (fun w1 (hb:Below (w.alloc (.cells #[.int .i32 x1,.int .i32 x2] 113)).heap.size (w.alloc (.cells #[.int .i32 x1,.int .i32 x2] 113)) w1) =>bX.below hb bX.lt)
 have q0:=bX.cell 0
 have HB:=kz hB
 have hq2:q=true ↔ ∃ t,zal zs t=true∧x1≤t∧t≤x2:=by
  rw [hq]
  constructor
  ·rintro ⟨t,a,b⟩;exact ⟨t,by rw [m4];exact a,b⟩
  ·rintro ⟨t,a,b⟩;exact ⟨t,by rw [← m4];exact a,b⟩
 cases hm:zal zs x1 with
 | true =>
  obtain rfl:q=true:=hq2.2 ⟨x1,hm,Int.le_refl _,hx⟩
  have HN:=kz (zox C zs x1 hm h1.1 h1.2 _ hA)
  obtain ⟨v,ok,ev,_⟩:=zjE zs (zav zs x1+1)
  rw [ev] at HN
  rw [hm] at HI
  clear hB bX h m1 m2 m3 m4 hA hq hq2 hm ev h1 hx
  go_enter Tryz.func159,Tryz.ntmps159
  go_wp2_with fail
  refine (oz HN).mono ?_
  rintro e w1 ⟨rfl,hb⟩
  have HB1:=kz hb
  have p0:=(oz HX w1 hb).cell 0
  clear hb HN q0
  go_wp2_with fail
  refine (oz HI w1 (oz HB1)).mono ?_
  rintro e w2 ⟨rfl,hb⟩
  have HB2:=kz ((oz HB).trans (((oz HB1).trans (hb.mono (oz HB1).size)).mono (oz HB).size))
  clear hb HI p0 HX
  go_wp2_with fail
  refine (zaF true 5 w2).mono ?_
  rintro e w3 ⟨rfl,hw⟩
  rw [hw]
  clear hw
  go_wp2_with fail
  go_ret
  exact ⟨rfl,oz HB2⟩
 | false =>
  have HN:=kz (zm2 C zs x1 hm h1.1 h1.2 _ hA)
  have hfa:=zi2 m2 x1 x2 hm
  obtain ⟨v,ok,ev,e1,e2⟩:=zjE zs (zav zs x1)
  rw [ev] at HN
  rw [hm] at HI
  have HQ:Hz ((ok && decide (v≤x2))=q):=kz (by
   rw [Bool.eq_iff_iff,hq2, ← hfa, ← e1]
   cases ok with
   | false =>simp
   | true =>rw [e2 rfl])
  clear hB bX h m1 m2 m3 m4 hA hq hq2 hm ev h1 hx e1 e2 hfa
  cases ok with
  | false =>
   obtain rfl:q=false:=(oz HQ).symm
   go_enter Tryz.func159,Tryz.ntmps159
   go_wp2_with fail
   refine (oz HN).mono ?_
   rintro e w1 ⟨rfl,hb⟩
   have HB1:=kz hb
   have p0:=(oz HX w1 hb).cell 0
   clear hb HN q0
   go_wp2_with fail
   refine (oz HI w1 (oz HB1)).mono ?_
   rintro e w2 ⟨rfl,hb⟩
   have HB2:=kz ((oz HB).trans (((oz HB1).trans (hb.mono (oz HB1).size)).mono (oz HB).size))
   clear hb HI p0 HX
   go_wp2_with fail
   refine (zaF false 5 w2).mono ?_
   rintro e w3 ⟨rfl,hw⟩
   rw [hw]
   clear hw
   go_wp2_with fail
   go_ret
   exact ⟨rfl,oz HB2⟩
  | true =>
   have HQ2:Hz (decide (v≤x2)=q):=kz (by have:=oz HQ;rwa [Bool.true_and] at this)
   go_enter Tryz.func159,Tryz.ntmps159
   go_wp2_with fail
   refine (oz HN).mono ?_
   rintro e w1 ⟨rfl,hb⟩
   have HB1:=kz hb
   have p0:=(oz HX w1 hb).cell 0
   clear hb HN q0
   go_wp2_with fail
   refine (oz HI w1 (oz HB1)).mono ?_
   rintro e w2 ⟨rfl,hb⟩
   have p1:=(oz HX w2 ((oz HB1).trans (hb.mono (oz HB1).size))).cell 1
   have HB2:=kz ((oz HB).trans (((oz HB1).trans (hb.mono (oz HB1).size)).mono (oz HB).size))
   clear hb HI p0 HX HQ
   go_wp2_with fail
   refine (zaF (decide (v≤x2)) 5 w2).mono ?_
   rw [oz HQ2]
   rintro e w3 ⟨rfl,hw⟩
   rw [hw]
   clear hw
   cases q
   all_goals
    go_wp2_with fail
    go_ret
    exact ⟨rfl,oz HB2⟩
theorem zow {zs:List (Int × Int)} (h:Spread zs):zs=[] ↔ ∀ r,zal zs r=false:=by
 constructor
 ·rintro rfl r
  rfl
 ·intro hr
  cases zs with
  | nil =>rfl
  | cons x zs =>
   have:=(znm h).1
   rw [hr] at this
   cases this
set_option maxRecDepth 100000 in
set_option maxHeartbeats 4000000 in
theorem zoG {lm lh:List (Int × Int)} (hm:lm.length≤1024) (hh:lh.length≤1024) (list:Int) (Ch Cm:Nat) (q:Bool) (hq:q=true ↔ ∀ r,zal lm r=true→zal lh r=true) (w:World) (h1:SetV w lh Ch) (h2:SetV w lm Cm) :
  Calls Tryz.prog 151 #[.int .i64 list,.pointer (some ⟨Ch,0,none⟩),.pointer (some ⟨Cm,0,none⟩)] w fun e w' =>e=.returned (wrV (if q then (0,0,0) else (5,list,0)))∧Below w.heap.size w w':=by
 have hB:Below w.heap.size w (w.alloc (.cells #[.int .i64 0,.int .i64 0,.int .i64 0] 76)):=(Below.refl _ w).alloc (Nat.le_refl _) _
 have bR:=Blk.new w #[.int .i64 0,.int .i64 0,.int .i64 0] 76
 obtain ⟨ys,lo1,a1,a2,a3,a4⟩:=h1.below hB
 obtain ⟨zs,lo2,b1,b2,b3,b4⟩:=h2.below hB
 have HM:=kz (zh1 Cm (some ⟨Ch,0,none⟩) zs ys (by omega) (by omega) _ (b1.set b2 (by omega)) (.inr ⟨Ch,rfl,a1.set a2 (by omega)⟩))
 have HB:=kz (And.intro hB bR)
 have HQ:Hz (∀ us,Spread us→(∀ r,zal us r=(zal zs r && !zal ys r))→(total us == 0)=q):=kz (fun us hs hr =>by
  rw [zjK hs,Bool.eq_iff_iff,decide_eq_true_eq,zow hs,hq]
  constructor
  ·intro h r hl
   have:=h r
   rw [hr,b4,hl,Bool.true_and,a4] at this
   simpa using this
  ·intro h r
   rw [hr,b4,a4]
   cases hl:zal lm r with
   | false =>rfl
   | true =>rw [h r hl];rfl)
 have HL:=kz (And.intro a3 b3)
 clear hB bR h1 h2 a1 a2 a3 a4 b1 b2 b3 b4 hq
 go_enter Tryz.func151,Tryz.ntmps151
 go_wp2_with fail
 refine (oz HM).mono ?_
 rintro e w1 ⟨B',lo0,us,rfl,_,u1,u2,u3,u4,hb⟩
 have HU:=kz (zeI B' us w1 (u1.set u2 (by have:=oz HL;omega)))
 have HT:=kz (oz HQ us u2 u4)
 have HB1:=kz (And.intro ((oz HB).1.trans (hb.mono (oz HB).1.size)) ((oz HB).2.below hb (oz HB).2.lt))
 clear u1 u2 u3 u4 hb HM HB HQ HL
 generalize total us=tt at *
 go_wp2_with fail
 refine (oz HU).mono ?_
 rintro e w2 ⟨rfl,hb⟩
 have HB2:=kz (And.intro ((oz HB1).1.trans (hb.mono (oz HB1).1.size)) ((oz HB1).2.below hb (oz HB1).2.lt))
 clear hb HU HB1
 have r0:=(oz HB2).2.cell 0
 have r1:=(oz HB2).2.cell 1
 have r2:=(oz HB2).2.cell 2
 have f0:=(oz HB2).2.frozen 0
 have f1:=(oz HB2).2.frozen 1
 have f2:=(oz HB2).2.frozen 2
 cases q with
 | true =>
  obtain rfl:tt=0:=by simpa using oz HT
  go_wp2_with fail
  exact bodyPost_ret (v:=wrV (0,0,0)) (zcH Tryz.results151 rfl (zcI (oz HB2).2 _ _ _) rfl) rfl ⟨rfl,za3 (oz HB2).1 (Nat.le_refl _) (oz HB2).1.size _ _ _⟩
 | false =>
  have t0:¬ tt=0:=by simpa using oz HT
  have t1:(tt == 0)=false:=oz HT
  go_wp2_with fail
  exact bodyPost_ret (v:=wrV (5,list,0)) (zcH Tryz.results151 rfl (zcI (oz HB2).2 _ _ _) rfl) rfl ⟨rfl,za3 (oz HB2).1 (Nat.le_refl _) (oz HB2).1.size _ _ _⟩
structure StP (w:World) (BX C:Nat) (l:List (Int × Int)):Prop where
 bx:Blk w BX #[.pointer (some ⟨C,0,none⟩)] 101
 st:SetV w l C
theorem StP.below {w w':World} {BX C:Nat} {l:List (Int × Int)} (h:StP w BX C l) (hb:Below w.heap.size w w'):StP w' BX C l:=⟨h.bx.below hb h.bx.lt,h.st.below hb⟩
set_option maxRecDepth 100000 in
theorem zpm {l:List (Int × Int)} (hl:l.length≤1000000) (BX C:Nat) (x1 x2:Int) (w:World) (h:StP w BX C l) :
  Calls Tryz.prog 152 #[.agg #[.int .i32 x1,.int .i64 x2],.pointer (some ⟨BX,0,none⟩)] w fun e w' =>e=.returned (.int .i64 (if zal l x1 then 5 else 0))∧Below w.heap.size w w':=by
 have hB1:Below w.heap.size w (w.alloc (.cells #[.int .i32 x1,.int .i64 x2] 115)):=(Below.refl _ w).alloc (Nat.le_refl _) _
 have b0:=(h.below hB1).bx.cell 0
 have hB2:Below w.heap.size w ((w.alloc (.cells #[.int .i32 x1,.int .i64 x2] 115)).alloc (.cells #[.int .i32 x1] 21)):=hB1.alloc (by simp) _
 have hv:[x1].any (zal l)=zal l x1:=by simp
 have HD:=kz (zdz hl C [x1] (by simp) (some ⟨w.heap.size+1,0,none⟩) 1 ((w.alloc (.cells #[.int .i32 x1,.int .i64 x2] 115)).alloc (.cells #[.int .i32 x1] 21)) (h.below hB2).st (zeq (w.alloc (.cells #[.int .i32 x1,.int .i64 x2] 115)) (w.heap.size+1) x1 21 (by simp)))
 rw [hv] at HD
 have HB:=kz hB2
 clear hB1 hB2 h hv
 generalize zal l x1=bb at *
 go_enter Tryz.func152,Tryz.ntmps152
 go_wp2_with fail
 refine (oz HD).mono ?_
 rintro e w2 ⟨rfl,hb⟩
 have HB2:=kz ((oz HB).trans (hb.mono (oz HB).size))
 clear hb HB HD
 cases bb
 all_goals
  go_wp2_with fail
  go_ret
  exact ⟨rfl,oz HB2⟩
set_option maxRecDepth 100000 in
theorem zpl {l:List (Int × Int)} (hl:l.length≤1000000) (BX C:Nat) (x1 x2 x3:Int) (w:World) (h:StP w BX C l) :
  Calls Tryz.prog 154 #[.agg #[.int .i32 x1,.int .i32 x2,.int .i32 x3],.pointer (some ⟨BX,0,none⟩)] w fun e w' =>e=.returned (.int .i64 (if zal l x1 then 5 else 0))∧Below w.heap.size w w':=by
 have hB1:Below w.heap.size w (w.alloc (.cells #[.int .i32 x1,.int .i32 x2,.int .i32 x3] 117)):=(Below.refl _ w).alloc (Nat.le_refl _) _
 have b0:=(h.below hB1).bx.cell 0
 have hB2:Below w.heap.size w ((w.alloc (.cells #[.int .i32 x1,.int .i32 x2,.int .i32 x3] 117)).alloc (.cells #[.int .i32 x1] 21)):=hB1.alloc (by simp) _
 have hv:[x1].any (zal l)=zal l x1:=by simp
 have HD:=kz (zdz hl C [x1] (by simp) (some ⟨w.heap.size+1,0,none⟩) 1 ((w.alloc (.cells #[.int .i32 x1,.int .i32 x2,.int .i32 x3] 117)).alloc (.cells #[.int .i32 x1] 21)) (h.below hB2).st (zeq (w.alloc (.cells #[.int .i32 x1,.int .i32 x2,.int .i32 x3] 117)) (w.heap.size+1) x1 21 (by simp)))
 rw [hv] at HD
 have HB:=kz hB2
 clear hB1 hB2 h hv
 generalize zal l x1=bb at *
 go_enter Tryz.func154,Tryz.ntmps154
 go_wp2_with fail
 refine (oz HD).mono ?_
 rintro e w2 ⟨rfl,hb⟩
 have HB2:=kz ((oz HB).trans (hb.mono (oz HB).size))
 clear hb HB HD
 cases bb
 all_goals
  go_wp2_with fail
  go_ret
  exact ⟨rfl,oz HB2⟩
set_option maxRecDepth 100000 in
theorem zpi {l:List (Int × Int)} (hl:l.length≤1000000) (BX C:Nat) (x1 x2:Int) (h1:R32 x1) (hx:x1≤x2) (q:Bool) (hq:q=true ↔ ∃ t,zal l t=true∧x1≤t∧t≤x2) (w:World) (h:StP w BX C l) :
  Calls Tryz.prog 158 #[.agg #[.int .i32 x1,.int .i32 x2],.pointer (some ⟨BX,0,none⟩)] w fun e w' =>e=.returned (.int .i64 (if q then 5 else 0))∧Below w.heap.size w w':=by
 have hB1:Below w.heap.size w (w.alloc (.cells #[.int .i32 x1,.int .i32 x2] 113)):=(Below.refl _ w).alloc (Nat.le_refl _) _
 have b0:=(h.below hB1).bx.cell 0
 have bX:=Blk.new w #[.int .i32 x1,.int .i32 x2] 113
 have q0:=bX.cell 0
 have q1:=bX.cell 1
 have HD:=kz (ze5 hl C x1 x2 h1 hx q hq (w.alloc (.cells #[.int .i32 x1,.int .i32 x2] 113)) (h.below hB1).st)
 have HB:=kz hB1
 clear hB1 h hq h1 hx bX
 go_enter Tryz.func158,Tryz.ntmps158
 go_wp2_with fail
 refine (oz HD).mono ?_
 rintro e w2 ⟨rfl,hb⟩
 have HB2:=kz ((oz HB).trans (hb.mono (oz HB).size))
 clear hb HB HD
 cases q
 all_goals
  go_wp2_with fail
  go_ret
  exact ⟨rfl,oz HB2⟩
set_option maxRecDepth 100000 in
theorem zph {l:List (Int × Int)} (hl:l.length≤1000000) (BX C:Nat) (x1 x2:Int) (h1:R32 x1) (hx:x1≤x2) (q:Bool) (hq:q=true ↔ ∃ t,zal l t=true∧x1≤t∧t≤x2) (w:World) (h:StP w BX C l) :
  Calls Tryz.prog 160 #[.agg #[.int .i32 x1,.int .i32 x2],.pointer (some ⟨BX,0,none⟩)] w fun e w' =>e=.returned (.int .i64 (if q then 5 else 0))∧Below w.heap.size w w':=by
 have hB1:Below w.heap.size w (w.alloc (.cells #[.int .i32 x1,.int .i32 x2] 113)):=(Below.refl _ w).alloc (Nat.le_refl _) _
 have b0:=(h.below hB1).bx.cell 0
 have bX:=Blk.new w #[.int .i32 x1,.int .i32 x2] 113
 have q0:=bX.cell 0
 have q1:=bX.cell 1
 have HD:=kz (ze5 hl C x1 x2 h1 hx q hq (w.alloc (.cells #[.int .i32 x1,.int .i32 x2] 113)) (h.below hB1).st)
 have HB:=kz hB1
 clear hB1 h hq h1 hx bX
 go_enter Tryz.func160,Tryz.ntmps160
 go_wp2_with fail
 refine (oz HD).mono ?_
 rintro e w2 ⟨rfl,hb⟩
 have HB2:=kz ((oz HB).trans (hb.mono (oz HB).size))
 clear hb HB HD
 cases q
 all_goals
  go_wp2_with fail
  go_ret
  exact ⟨rfl,oz HB2⟩
def zp8 (P:Nat) (C:Nat) (E:Nat) (x1:Int) (x2:ByteArray) (e1:Int) (e2:Int):Nat→Value→World→Prop
 | 0,v,w =>v=.pointer (some ⟨C,0,none⟩)
 | 1,v,w =>v=.pointer (some ⟨P,0,none⟩)
 | 2,v,w =>v=.int .i32 x1
 | 3,v,w => ∃ g,v=.slice (some ⟨g,0,none⟩) 1 1∧RnC w w.heap.size (some ⟨g,0,none⟩) [x1]
 | 4,v,w =>v=.int .i64 e1
 | 5,v,w =>v=.pointer (some ⟨E,0,none⟩)
 | 6,v,w =>v=.pointer (some ⟨P,1,none⟩)
 | 7,v,w =>v=.string x2
 | 8,v,w => ∃ g c,v=.slice (some ⟨g,0,none⟩) (zai x2).length c∧RnG w g (zai x2)
 | 9,v,w =>v=.int .i64 e2
 | 10,v,w => ∃ g,v=.slice (some ⟨g,0,none⟩) 2 2∧Blk w g #[.int .i64 e1,.int .i64 e2] 74
 | 11,v,w =>v=.int .i64 (orE [e1,e2])
 | _,v,w =>True
def zpv (j:Nat):Bool:=false
theorem zcA {P:Nat} {C:Nat} {E:Nat} {x1:Int} {x2:ByteArray} {e1:Int} {e2:Int} {w w':World} (hb:Below w.heap.size w w'):∀ (j:Nat) (v:Value),zp8 P C E x1 x2 e1 e2 j v w→zp8 P C E x1 x2 e1 e2 j v w'
 | 0,v,h =>h
 | 1,v,h =>h
 | 2,v,h =>h
 | 3,v,h =>let ⟨g,e,h2⟩:=h; ⟨g,e,h2.below hb⟩
 | 4,v,h =>h
 | 5,v,h =>h
 | 6,v,h =>h
 | 7,v,h =>h
 | 8,v,h =>let ⟨g,c,e,h2⟩:=h; ⟨g,c,e,h2.below hb⟩
 | 9,v,h =>h
 | 10,v,h =>let ⟨g,e,h2⟩:=h; ⟨g,e,h2.below hb h2.lt⟩
 | 11,v,h =>h
 | _+12,v,h =>h
theorem zcB {P:Nat} {C:Nat} {E:Nat} {x1:Int} {x2:ByteArray} {e1:Int} {e2:Int} {w:World} (j:Nat) (v:Value) (hm:zpv j=true) (h:zp8 P C E x1 x2 e1 e2 j v w):∀ b,v.ownBlock=some b→b < w.heap.size:=by
 cases hm
set_option maxRecDepth 100000 in
set_option maxHeartbeats 4000000 in
theorem zpk {l:List (Int × Int)} (hl:l.length≤1000000) {m:List (Int × Int)} (hm:m.length≤1000000) (BX C BY E:Nat) (x1:Int) (x2:ByteArray) (hz:x2.size≤1048576) (hn:(zai x2).length≤1000000) (w0:World) (h:StP w0 BX C l) (h2:StP w0 BY E m) :
  Calls Tryz.prog 155 #[.agg #[.int .i32 x1,.string x2],.pointer (some ⟨BX,0,none⟩),.pointer (some ⟨BY,0,none⟩)] w0 fun e w' =>e=.returned (.int .i64 (if zal l x1 || (zai x2).any (zal m) then 5 else 0))∧Below w0.heap.size w0 w':=by
 have hmx:Tryz.prog.follows .mixedOrders=true:=by kernel_rfl
 have hB0:Below w0.heap.size w0 (w0.alloc (.cells #[.int .i32 x1,.string x2] 119)).drew:=((Below.refl _ w0).alloc (Nat.le_refl _) _).trans ⟨rfl,rfl,rfl,Nat.le_refl _,fun _ _ =>rfl⟩
 have bX:Blk (w0.alloc (.cells #[.int .i32 x1,.string x2] 119)).drew w0.heap.size #[.int .i32 x1,.string x2] 119:=Blk.new w0 _ _
 have hU:=h.below hB0
 have hU2:=h2.below hB0
 have HF:Hz (∀ w1,Below (w0.alloc (.cells #[.int .i32 x1,.string x2] 119)).drew.heap.size (w0.alloc (.cells #[.int .i32 x1,.string x2] 119)).drew w1→Blk w1 w0.heap.size #[.int .i32 x1,.string x2] 119∧StP w1 BX C l∧StP w1 BY E m):=kz (fun w1 h1 =>⟨bX.below h1 bX.lt,hU.below h1,hU2.below h1⟩)
 have HB:=kz hB0
 have HZ:=kz hz
 have HN:=kz hn
 have HLN:=kz (And.intro hl hm)
 obtain ⟨e1,he1⟩:∃ z:Int,(if [x1].any (zal l) then 5 else 0)=z:=⟨_,rfl⟩
 obtain ⟨e2,he2⟩:∃ z:Int,(if (zai x2).any (zal m) then 5 else 0)=z:=⟨_,rfl⟩
 have HFI:Hz ((if zal l x1 || (zai x2).any (zal m) then 5 else 0:Int)=orE [e1,e2]):=kz (by
  rw [← he1, ← he2,show [x1].any (zal l)=zal l x1 by simp]
  cases zal l x1 <;> cases (zai x2).any (zal m) <;> rfl)
 rw [oz HFI]
 have HE1:=kz he1
 have HE2:=kz he2
 clear hB0 bX hU hU2 h h2 he1 he2 hz hn HFI
 go_enter Tryz.func155,Tryz.ntmps155
 go_wp2_with fail
 generalize (w0.alloc (.cells #[.int .i32 x1,.string x2] 119))=wz at *
 refine zaB hmx 12 (by decide) (by kernel_rfl) (by kernel_rfl) (fun l a w => ∃ U:Nat→Value,a = { tmps:=#[.agg #[.int .i32 x1,.string x2],.pointer (some ⟨BX,0,none⟩),.pointer (some ⟨BY,0,none⟩),.pointer (some ⟨w0.heap.size,0,none⟩),.int .i64 0,U 0,U 1,U 2,U 3,U 4,U 5,U 6,U 7,U 8,U 9,U 10,U 11],defers := [] }∧RgJ (wz.drew) (wz.drew.heap.size) (zp8 w0.heap.size C E x1 x2 e1 e2) zpv l U w) ⟨fun _ =>undef,rfl,RgJ.start _ _ (Nat.le_refl _)⟩ ?_ ?_
 ·rintro l a w i ⟨U,rfl,hJ⟩ hl hi hif
  have h0:=(mem_ready.1 hi).1
  have hlt:=zeN hl h0
  have HJ:=kz hJ
  clear hJ hl
  replace hlt:i < 13:=hlt
  obtain rfl | rfl | rfl | rfl | rfl | rfl | rfl | rfl | rfl | rfl | rfl | rfl:i=0∨i=1∨i=2∨i=3∨i=4∨i=5∨i=6∨i=7∨i=8∨i=9∨i=10∨i=11:=by omega
  ·refine wpOp_step rfl (fun K hK =>?_)
   clear hlt hif
   have q0:=(oz HF w (oz HJ).bel).2.1.bx.cell 0
   go_simp
   exact hK _ _ ⟨zaa U 0 _,rfl,(oz HJ).put 0 _ h0 (Below.refl _ _) (zcA (Below.refl _ _)) rfl zcB (fun h =>absurd h (by decide))⟩
  ·refine wpOp_step rfl (fun K hK =>?_)
   clear hlt hif
   go_simp
   exact hK _ _ ⟨zaa U 1 _,rfl,(oz HJ).put 1 _ h0 (Below.refl _ _) (zcA (Below.refl _ _)) rfl zcB (fun h =>absurd h (by decide))⟩
  ·refine wpOp_step rfl (fun K hK =>?_)
   clear hlt hif
   have d1:U 1=.pointer (some ⟨w0.heap.size,0,none⟩):=(oz HJ).val 1 (zab hi 1 (by kernel_rfl))
   have q1:=(oz HF w (oz HJ).bel).1.cell 0
   go_simp
   exact hK _ _ ⟨zaa U 2 _,(by rw [zac d1];rfl),(oz HJ).put 2 _ h0 (Below.refl _ _) (zcA (Below.refl _ _)) rfl zcB (fun h =>absurd h (by decide))⟩
  ·refine wpOp_step rfl (fun K hK =>?_)
   clear hlt hif
   have d2:U 2=.int .i32 x1:=(oz HJ).val 2 (zab hi 2 (by kernel_rfl))
   go_simp
   exact hK _ _ ⟨zaa U 3 _,(by rw [zac d2];rfl),(oz HJ).put 3 _ h0 ((Below.refl _ _).alloc (Nat.le_refl _) _) (zcA ((Below.refl _ _).alloc (Nat.le_refl _) _)) ⟨_,rfl,zeq w _ x1 _ rfl⟩ zcB (fun h =>absurd h (by decide))⟩
  ·refine wpOp_step rfl (fun K hK =>?_)
   clear hlt hif
   have d0:U 0=.pointer (some ⟨C,0,none⟩):=(oz HJ).val 0 (zab hi 0 (by kernel_rfl))
   obtain ⟨g3,d3,h3⟩:=(oz HJ).val 3 (zab hi 3 (by kernel_rfl))
   go_simp
   refine (zdz (oz HLN).1 C [x1] (by simp) _ _ w (oz HF w (oz HJ).bel).2.1.st h3).mono ?_
   rw [oz HE1]
   rintro e w' ⟨rfl,hb⟩
   exact hK _ _ ⟨zaa U 4 _,(by rw [zac d0,zac d3];rfl),(oz HJ).put 4 _ h0 hb (zcA hb) rfl zcB (fun h =>absurd h (by decide))⟩
  ·refine wpOp_step rfl (fun K hK =>?_)
   clear hlt hif
   have q0:=(oz HF w (oz HJ).bel).2.2.bx.cell 0
   go_simp
   exact hK _ _ ⟨zaa U 5 _,rfl,(oz HJ).put 5 _ h0 (Below.refl _ _) (zcA (Below.refl _ _)) rfl zcB (fun h =>absurd h (by decide))⟩
  ·refine wpOp_step rfl (fun K hK =>?_)
   clear hlt hif
   go_simp
   exact hK _ _ ⟨zaa U 6 _,rfl,(oz HJ).put 6 _ h0 (Below.refl _ _) (zcA (Below.refl _ _)) rfl zcB (fun h =>absurd h (by decide))⟩
  ·refine wpOp_step rfl (fun K hK =>?_)
   clear hlt hif
   have d6:U 6=.pointer (some ⟨w0.heap.size,1,none⟩):=(oz HJ).val 6 (zab hi 6 (by kernel_rfl))
   have q1:=(oz HF w (oz HJ).bel).1.cell 1
   go_simp
   exact hK _ _ ⟨zaa U 7 _,(by rw [zac d6];rfl),(oz HJ).put 7 _ h0 (Below.refl _ _) (zcA (Below.refl _ _)) rfl zcB (fun h =>absurd h (by decide))⟩
  ·refine wpOp_step rfl (fun K hK =>?_)
   clear hlt hif
   have d7:U 7=.string x2:=(oz HJ).val 7 (zab hi 7 (by kernel_rfl))
   go_simp
   refine (zhO x2 (oz HZ) _).mono ?_
   rintro e w' ⟨g2,c2,rfl,hg2,hrn,hb⟩
   exact hK _ _ ⟨zaa U 8 _,(by rw [zac d7];rfl),(oz HJ).put 8 _ h0 hb (zcA hb) ⟨g2,c2,rfl,hrn⟩ zcB (fun h =>absurd h (by decide))⟩
  ·refine wpOp_step rfl (fun K hK =>?_)
   clear hlt hif
   have d5:U 5=.pointer (some ⟨E,0,none⟩):=(oz HJ).val 5 (zab hi 5 (by kernel_rfl))
   obtain ⟨g8,c8,d8,h8⟩:=(oz HJ).val 8 (zab hi 8 (by kernel_rfl))
   go_simp
   refine (zdz (oz HLN).2 E (zai x2) (oz HN) _ _ w (oz HF w (oz HJ).bel).2.2.st (zjm h8)).mono ?_
   rw [oz HE2]
   rintro e w' ⟨rfl,hb⟩
   exact hK _ _ ⟨zaa U 9 _,(by rw [zac d5,zac d8];rfl),(oz HJ).put 9 _ h0 hb (zcA hb) rfl zcB (fun h =>absurd h (by decide))⟩
  ·refine wpOp_step rfl (fun K hK =>?_)
   clear hlt hif
   have d4:U 4=.int .i64 e1:=(oz HJ).val 4 (zab hi 4 (by kernel_rfl))
   have d9:U 9=.int .i64 e2:=(oz HJ).val 9 (zab hi 9 (by kernel_rfl))
   go_simp
   exact hK _ _ ⟨zaa U 10 _,(by rw [zac d4,zac d9];rfl),(oz HJ).put 10 _ h0 ((Below.refl _ _).alloc (Nat.le_refl _) _) (zcA ((Below.refl _ _).alloc (Nat.le_refl _) _)) ⟨_,rfl,Blk.new w _ _⟩ zcB (fun h =>absurd h (by decide))⟩
  ·refine wpOp_step rfl (fun K hK =>?_)
   clear hlt hif
   obtain ⟨g10,d10,h10⟩:=(oz HJ).val 10 (zab hi 10 (by kernel_rfl))
   go_simp
   refine (zbg [e1,e2] (by simp) _ 0 _ _ (ze9 h10)).mono ?_
   rintro e w' ⟨rfl,rfl⟩
   exact hK _ _ ⟨zaa U 11 _,(by rw [zac d10];rfl),(oz HJ).put 11 _ h0 (Below.refl _ _) (zcA (Below.refl _ _)) rfl zcB (fun h =>absurd h (by decide))⟩
 ·rintro l a w ⟨U,rfl,hJ⟩ hall
  have d11:U 11=.int .i64 (orE [e1,e2]):=hJ.val 11 (hall 11 (by decide) (by decide))
  have HBJ:=kz ((oz HB).trans (hJ.bel.mono (oz HB).size))
  clear hJ hall
  refine wpOp_step rfl (fun K hK =>?_)
  obtain ⟨zz,hzz⟩:∃ zz,orE [e1,e2]=zz:=⟨_,rfl⟩
  rw [hzz] at d11
  have HZZ:=kz hzz
  clear hzz
  go_simp
  refine hK _ _ ?_
  clear hK
  go_wp2_with fail
  go_ret
  exact ⟨by rw [oz HZZ];rfl,oz HBJ⟩
def zp7 (P:Nat) (C:Nat) (E:Nat) (x1:Int) (x2:ByteArray) (e1:Int) (e2:Int):Nat→Value→World→Prop
 | 0,v,w =>v=.pointer (some ⟨C,0,none⟩)
 | 1,v,w =>v=.pointer (some ⟨P,0,none⟩)
 | 2,v,w =>v=.int .i32 x1
 | 3,v,w => ∃ g,v=.slice (some ⟨g,0,none⟩) 1 1∧RnC w w.heap.size (some ⟨g,0,none⟩) [x1]
 | 4,v,w =>v=.int .i64 e1
 | 5,v,w =>v=.pointer (some ⟨C,0,none⟩)
 | 6,v,w =>v=.pointer (some ⟨P,1,none⟩)
 | 7,v,w =>v=.string x2
 | 8,v,w => ∃ g c,v=.slice (some ⟨g,0,none⟩) (zai x2).length c∧RnG w g (zai x2)
 | 9,v,w =>v=.int .i64 e2
 | 10,v,w => ∃ g,v=.slice (some ⟨g,0,none⟩) 2 2∧Blk w g #[.int .i64 e1,.int .i64 e2] 74
 | 11,v,w =>v=.int .i64 (orE [e1,e2])
 | _,v,w =>True
def zpt (j:Nat):Bool:=false
theorem zcy {P:Nat} {C:Nat} {E:Nat} {x1:Int} {x2:ByteArray} {e1:Int} {e2:Int} {w w':World} (hb:Below w.heap.size w w'):∀ (j:Nat) (v:Value),zp7 P C E x1 x2 e1 e2 j v w→zp7 P C E x1 x2 e1 e2 j v w'
 | 0,v,h =>h
 | 1,v,h =>h
 | 2,v,h =>h
 | 3,v,h =>let ⟨g,e,h2⟩:=h; ⟨g,e,h2.below hb⟩
 | 4,v,h =>h
 | 5,v,h =>h
 | 6,v,h =>h
 | 7,v,h =>h
 | 8,v,h =>let ⟨g,c,e,h2⟩:=h; ⟨g,c,e,h2.below hb⟩
 | 9,v,h =>h
 | 10,v,h =>let ⟨g,e,h2⟩:=h; ⟨g,e,h2.below hb h2.lt⟩
 | 11,v,h =>h
 | _+12,v,h =>h
theorem zcz {P:Nat} {C:Nat} {E:Nat} {x1:Int} {x2:ByteArray} {e1:Int} {e2:Int} {w:World} (j:Nat) (v:Value) (hm:zpt j=true) (h:zp7 P C E x1 x2 e1 e2 j v w):∀ b,v.ownBlock=some b→b < w.heap.size:=by
 cases hm
set_option maxRecDepth 100000 in
set_option maxHeartbeats 4000000 in
theorem zpj {l:List (Int × Int)} (hl:l.length≤1000000) (BX C:Nat) (x1:Int) (x2:ByteArray) (hz:x2.size≤1048576) (hn:(zai x2).length≤1000000) (w0:World) (h:StP w0 BX C l) :
  Calls Tryz.prog 156 #[.agg #[.int .i32 x1,.string x2],.pointer (some ⟨BX,0,none⟩)] w0 fun e w' =>e=.returned (.int .i64 (if zal l x1 || (zai x2).any (zal l) then 5 else 0))∧Below w0.heap.size w0 w':=by
 have hmx:Tryz.prog.follows .mixedOrders=true:=by kernel_rfl
 have hB0:Below w0.heap.size w0 (w0.alloc (.cells #[.int .i32 x1,.string x2] 119)).drew:=((Below.refl _ w0).alloc (Nat.le_refl _) _).trans ⟨rfl,rfl,rfl,Nat.le_refl _,fun _ _ =>rfl⟩
 have bX:Blk (w0.alloc (.cells #[.int .i32 x1,.string x2] 119)).drew w0.heap.size #[.int .i32 x1,.string x2] 119:=Blk.new w0 _ _
 have hU:=h.below hB0
 have hU2:=h.below hB0
 have HF:Hz (∀ w1,Below (w0.alloc (.cells #[.int .i32 x1,.string x2] 119)).drew.heap.size (w0.alloc (.cells #[.int .i32 x1,.string x2] 119)).drew w1→Blk w1 w0.heap.size #[.int .i32 x1,.string x2] 119∧StP w1 BX C l∧StP w1 BX C l):=kz (fun w1 h1 =>⟨bX.below h1 bX.lt,hU.below h1,hU2.below h1⟩)
 have HB:=kz hB0
 have HZ:=kz hz
 have HN:=kz hn
 have HLN:=kz (And.intro hl hl)
 obtain ⟨e1,he1⟩:∃ z:Int,(if [x1].any (zal l) then 5 else 0)=z:=⟨_,rfl⟩
 obtain ⟨e2,he2⟩:∃ z:Int,(if (zai x2).any (zal l) then 5 else 0)=z:=⟨_,rfl⟩
 have HFI:Hz ((if zal l x1 || (zai x2).any (zal l) then 5 else 0:Int)=orE [e1,e2]):=kz (by
  rw [← he1, ← he2,show [x1].any (zal l)=zal l x1 by simp]
  cases zal l x1 <;> cases (zai x2).any (zal l) <;> rfl)
 rw [oz HFI]
 have HE1:=kz he1
 have HE2:=kz he2
 clear hB0 bX hU hU2 h he1 he2 hz hn HFI
 go_enter Tryz.func156,Tryz.ntmps156
 go_wp2_with fail
 generalize (w0.alloc (.cells #[.int .i32 x1,.string x2] 119))=wz at *
 refine zaB hmx 12 (by decide) (by kernel_rfl) (by kernel_rfl) (fun l a w => ∃ U:Nat→Value,a = { tmps:=#[.agg #[.int .i32 x1,.string x2],.pointer (some ⟨BX,0,none⟩),.pointer (some ⟨w0.heap.size,0,none⟩),.int .i64 0,U 0,U 1,U 2,U 3,U 4,U 5,U 6,U 7,U 8,U 9,U 10,U 11],defers := [] }∧RgJ (wz.drew) (wz.drew.heap.size) (zp7 w0.heap.size C C x1 x2 e1 e2) zpt l U w) ⟨fun _ =>undef,rfl,RgJ.start _ _ (Nat.le_refl _)⟩ ?_ ?_
 ·rintro l a w i ⟨U,rfl,hJ⟩ hl hi hif
  have h0:=(mem_ready.1 hi).1
  have hlt:=zeN hl h0
  have HJ:=kz hJ
  clear hJ hl
  replace hlt:i < 13:=hlt
  obtain rfl | rfl | rfl | rfl | rfl | rfl | rfl | rfl | rfl | rfl | rfl | rfl:i=0∨i=1∨i=2∨i=3∨i=4∨i=5∨i=6∨i=7∨i=8∨i=9∨i=10∨i=11:=by omega
  ·refine wpOp_step rfl (fun K hK =>?_)
   clear hlt hif
   have q0:=(oz HF w (oz HJ).bel).2.1.bx.cell 0
   go_simp
   exact hK _ _ ⟨zaa U 0 _,rfl,(oz HJ).put 0 _ h0 (Below.refl _ _) (zcy (Below.refl _ _)) rfl zcz (fun h =>absurd h (by decide))⟩
  ·refine wpOp_step rfl (fun K hK =>?_)
   clear hlt hif
   go_simp
   exact hK _ _ ⟨zaa U 1 _,rfl,(oz HJ).put 1 _ h0 (Below.refl _ _) (zcy (Below.refl _ _)) rfl zcz (fun h =>absurd h (by decide))⟩
  ·refine wpOp_step rfl (fun K hK =>?_)
   clear hlt hif
   have d1:U 1=.pointer (some ⟨w0.heap.size,0,none⟩):=(oz HJ).val 1 (zab hi 1 (by kernel_rfl))
   have q1:=(oz HF w (oz HJ).bel).1.cell 0
   go_simp
   exact hK _ _ ⟨zaa U 2 _,(by rw [zac d1];rfl),(oz HJ).put 2 _ h0 (Below.refl _ _) (zcy (Below.refl _ _)) rfl zcz (fun h =>absurd h (by decide))⟩
  ·refine wpOp_step rfl (fun K hK =>?_)
   clear hlt hif
   have d2:U 2=.int .i32 x1:=(oz HJ).val 2 (zab hi 2 (by kernel_rfl))
   go_simp
   exact hK _ _ ⟨zaa U 3 _,(by rw [zac d2];rfl),(oz HJ).put 3 _ h0 ((Below.refl _ _).alloc (Nat.le_refl _) _) (zcy ((Below.refl _ _).alloc (Nat.le_refl _) _)) ⟨_,rfl,zeq w _ x1 _ rfl⟩ zcz (fun h =>absurd h (by decide))⟩
  ·refine wpOp_step rfl (fun K hK =>?_)
   clear hlt hif
   have d0:U 0=.pointer (some ⟨C,0,none⟩):=(oz HJ).val 0 (zab hi 0 (by kernel_rfl))
   obtain ⟨g3,d3,h3⟩:=(oz HJ).val 3 (zab hi 3 (by kernel_rfl))
   go_simp
   refine (zdz (oz HLN).1 C [x1] (by simp) _ _ w (oz HF w (oz HJ).bel).2.1.st h3).mono ?_
   rw [oz HE1]
   rintro e w' ⟨rfl,hb⟩
   exact hK _ _ ⟨zaa U 4 _,(by rw [zac d0,zac d3];rfl),(oz HJ).put 4 _ h0 hb (zcy hb) rfl zcz (fun h =>absurd h (by decide))⟩
  ·refine wpOp_step rfl (fun K hK =>?_)
   clear hlt hif
   have q0:=(oz HF w (oz HJ).bel).2.2.bx.cell 0
   go_simp
   exact hK _ _ ⟨zaa U 5 _,rfl,(oz HJ).put 5 _ h0 (Below.refl _ _) (zcy (Below.refl _ _)) rfl zcz (fun h =>absurd h (by decide))⟩
  ·refine wpOp_step rfl (fun K hK =>?_)
   clear hlt hif
   go_simp
   exact hK _ _ ⟨zaa U 6 _,rfl,(oz HJ).put 6 _ h0 (Below.refl _ _) (zcy (Below.refl _ _)) rfl zcz (fun h =>absurd h (by decide))⟩
  ·refine wpOp_step rfl (fun K hK =>?_)
   clear hlt hif
   have d6:U 6=.pointer (some ⟨w0.heap.size,1,none⟩):=(oz HJ).val 6 (zab hi 6 (by kernel_rfl))
   have q1:=(oz HF w (oz HJ).bel).1.cell 1
   go_simp
   exact hK _ _ ⟨zaa U 7 _,(by rw [zac d6];rfl),(oz HJ).put 7 _ h0 (Below.refl _ _) (zcy (Below.refl _ _)) rfl zcz (fun h =>absurd h (by decide))⟩
  ·refine wpOp_step rfl (fun K hK =>?_)
   clear hlt hif
   have d7:U 7=.string x2:=(oz HJ).val 7 (zab hi 7 (by kernel_rfl))
   go_simp
   refine (zhO x2 (oz HZ) _).mono ?_
   rintro e w' ⟨g2,c2,rfl,hg2,hrn,hb⟩
   exact hK _ _ ⟨zaa U 8 _,(by rw [zac d7];rfl),(oz HJ).put 8 _ h0 hb (zcy hb) ⟨g2,c2,rfl,hrn⟩ zcz (fun h =>absurd h (by decide))⟩
  ·refine wpOp_step rfl (fun K hK =>?_)
   clear hlt hif
   have d5:U 5=.pointer (some ⟨C,0,none⟩):=(oz HJ).val 5 (zab hi 5 (by kernel_rfl))
   obtain ⟨g8,c8,d8,h8⟩:=(oz HJ).val 8 (zab hi 8 (by kernel_rfl))
   go_simp
   refine (zdz (oz HLN).2 C (zai x2) (oz HN) _ _ w (oz HF w (oz HJ).bel).2.2.st (zjm h8)).mono ?_
   rw [oz HE2]
   rintro e w' ⟨rfl,hb⟩
   exact hK _ _ ⟨zaa U 9 _,(by rw [zac d5,zac d8];rfl),(oz HJ).put 9 _ h0 hb (zcy hb) rfl zcz (fun h =>absurd h (by decide))⟩
  ·refine wpOp_step rfl (fun K hK =>?_)
   clear hlt hif
   have d4:U 4=.int .i64 e1:=(oz HJ).val 4 (zab hi 4 (by kernel_rfl))
   have d9:U 9=.int .i64 e2:=(oz HJ).val 9 (zab hi 9 (by kernel_rfl))
   go_simp
   exact hK _ _ ⟨zaa U 10 _,(by rw [zac d4,zac d9];rfl),(oz HJ).put 10 _ h0 ((Below.refl _ _).alloc (Nat.le_refl _) _) (zcy ((Below.refl _ _).alloc (Nat.le_refl _) _)) ⟨_,rfl,Blk.new w _ _⟩ zcz (fun h =>absurd h (by decide))⟩
  ·refine wpOp_step rfl (fun K hK =>?_)
   clear hlt hif
   obtain ⟨g10,d10,h10⟩:=(oz HJ).val 10 (zab hi 10 (by kernel_rfl))
   go_simp
   refine (zbg [e1,e2] (by simp) _ 0 _ _ (ze9 h10)).mono ?_
   rintro e w' ⟨rfl,rfl⟩
   exact hK _ _ ⟨zaa U 11 _,(by rw [zac d10];rfl),(oz HJ).put 11 _ h0 (Below.refl _ _) (zcy (Below.refl _ _)) rfl zcz (fun h =>absurd h (by decide))⟩
 ·rintro l a w ⟨U,rfl,hJ⟩ hall
  have d11:U 11=.int .i64 (orE [e1,e2]):=hJ.val 11 (hall 11 (by decide) (by decide))
  have HBJ:=kz ((oz HB).trans (hJ.bel.mono (oz HB).size))
  clear hJ hall
  refine wpOp_step rfl (fun K hK =>?_)
  obtain ⟨zz,hzz⟩:∃ zz,orE [e1,e2]=zz:=⟨_,rfl⟩
  rw [hzz] at d11
  have HZZ:=kz hzz
  clear hzz
  go_simp
  refine hK _ _ ?_
  clear hK
  go_wp2_with fail
  go_ret
  exact ⟨by rw [oz HZZ];rfl,oz HBJ⟩
end Go.Proofs.YtmemedpoaocdkaaGreat
