/- Texts of this claim, one behind the other. -/
import Derived.Test.YtmemedpoaocdkaaGreatTlJ
import Derived.Test.YtmemedpoaocdkaaGreatM27
/- A Book of tables: what every table says alike: one row. -/
namespace Go.Proofs.YtmemedpoaocdkaaGreat
open Go.RowKit Go.Shelf Go.Maps
set_option linter.unusedVariables false
theorem zm4 (b:Bool):0≤zkh b:=by cases b <;> decide
theorem zin {zs:List (Int × Int)} (h:Spread zs) (a:Int):∀ n:Nat,zaz zs a≤zaz zs (a+n)
 | 0 =>by simp
 | n+1 =>by
  have h1:=zin h a n
  have h2:=ze2 zs (a+n) h
  have h3:=zm4 (zan zs (a+n))
  rw [show a+((n+1:Nat):Int)=a+n+1 by omega,h2]
  omega
theorem zgY {zs:List (Int × Int)} (h:Spread zs) {a b:Int} (hab:a≤b):zaz zs a≤zaz zs b:=by
 have:=zin h a (b - a).toNat
 rwa [show a+((b - a).toNat:Int)=b by omega] at this
theorem zkC {zs:List (Int × Int)} (h:Spread zs) (r hi:Int) (hr:zan zs r=false):(decide (0≤zaz zs r∧zaz zs r < total zs) && decide (zb6 zs (zaz zs r)≤hi))=true ↔ ∃ t,zan zs t=true∧r≤t∧t≤hi:=by
 have h0:=zgA zs r h.ends
 constructor
 ·intro hq
  rw [Bool.and_eq_true,decide_eq_true_eq,decide_eq_true_eq] at hq
  obtain ⟨⟨_,h1⟩,h2⟩:=hq
  obtain ⟨m1,m2,m3,_⟩:=zm7 h h0 h1
  refine ⟨_,m1, ?_,h2⟩
  rcases Int.lt_or_le (zb6 zs (zaz zs r)) r with c | c
  ·have:=zgY h (show zb6 zs (zaz zs r)+1≤r by omega)
   omega
  ·exact c
 ·rintro ⟨t,m,ht,hth⟩
  have hs:zaz zs (t+1)=zaz zs t+1:=by rw [ze2 zs t h,m];rfl
  have h1:=zgY h ht
  have hlt:zaz zs r < total zs:=by
   have h2:=zhE zs h
   have h3:t≤1114111:=(za3 ((zaD zs t).1 m).2).2.1
   have h4:=zgY h (show t+1≤1114112 by omega)
   omega
  rw [Bool.and_eq_true,decide_eq_true_eq,decide_eq_true_eq]
  refine ⟨⟨h0,hlt⟩, ?_⟩
  obtain ⟨m1,m2,m3,_⟩:=zm7 h h0 hlt
  rcases Int.lt_or_le t (zb6 zs (zaz zs r)) with c | c
  ·have:=zgY h (show t+1≤zb6 zs (zaz zs r) by omega)
   omega
  ·omega
theorem zlh (zs:List (Int × Int)) (n:Int):∃ v ok,zn8 zs n=.tuple #[.int .i32 v,.bool ok]∧ok=decide (0≤n∧n < total zs)∧(ok=true→v=zb6 zs n):=by
 unfold zn8
 by_cases h:0≤n∧n < total zs
 ·rw [if_pos h]
  exact ⟨_,_,rfl,by simp [h],fun _ =>rfl⟩
 ·rw [if_neg h]
  exact ⟨_,_,rfl,by simp [h],fun q =>by cases q⟩
set_option maxRecDepth 100000 in
set_option maxHeartbeats 4000000 in
theorem zf2 {l:List (Int × Int)} (hl:l.length≤1000000) (C:Nat) (x1 x2:Int) (h1:R32 x1) (hx:x1≤x2) (q:Bool) (hq:q=true ↔ ∃ t,zan l t=true∧x1≤t∧t≤x2) (w:World) (h:SetV w l C) :
  Calls Tryz.prog 159 #[.pointer (some ⟨C,0,none⟩),.agg #[.int .i32 x1,.int .i32 x2]] w fun e w' =>e=.returned (.int .i64 (if q then 5 else 0))∧Below w.heap.size w w':=by
 have hB:Below w.heap.size w (w.alloc (.cells #[.int .i32 x1,.int .i32 x2] 113)):=(Below.refl _ w).alloc (Nat.le_refl _) _
 have bX:=Blk.new w #[.int .i32 x1,.int .i32 x2] 113
 have hV:=h.below hB
 obtain ⟨zs,lo0,m1,m2,m3,m4⟩:=hV
 have hA:=m1.set m2 (by omega)
 have HI:=kz (fun w1 (hb:Below (w.alloc (.cells #[.int .i32 x1,.int .i32 x2] 113)).heap.size (w.alloc (.cells #[.int .i32 x1,.int .i32 x2] 113)) w1) =>zk8 C zs x1 w1 ((m1.below hb).set m2 (by omega)))
 have HX:=kz (fun w1 (hb:Below (w.alloc (.cells #[.int .i32 x1,.int .i32 x2] 113)).heap.size (w.alloc (.cells #[.int .i32 x1,.int .i32 x2] 113)) w1) =>bX.below hb bX.lt)
 have q0:=bX.cell 0
 have HB:=kz hB
 have hq2:q=true ↔ ∃ t,zan zs t=true∧x1≤t∧t≤x2:=by
  rw [hq]
  constructor
  ·rintro ⟨t,a,b⟩;exact ⟨t,by rw [m4];exact a,b⟩
  ·rintro ⟨t,a,b⟩;exact ⟨t,by rw [← m4];exact a,b⟩
 cases hm:zan zs x1 with
 | true =>
  obtain rfl:q=true:=hq2.2 ⟨x1,hm,Int.le_refl _,hx⟩
  have HN:=kz (zqD C zs x1 hm h1.1 h1.2 _ hA)
  obtain ⟨v,ok,ev,_⟩:=zlh zs (zaz zs x1+1)
  rw [ev] at HN
  rw [hm] at HI
  clear hB bX h m1 m2 m3 m4 hA hq hq2 hm ev h1 hx
  go_enter Tryz.func159,Tryz.ntmps159
  go_wp2_with fail
  refine (oz HN).mono ?_
  rintro e w1 ⟨rfl,hb⟩
  have HB1:=kz hb
  have p0:=(oz HX w1 hb).cell 0
  clear hb HN q0
  go_wp2_with fail
  refine (oz HI w1 (oz HB1)).mono ?_
  rintro e w2 ⟨rfl,hb⟩
  have HB2:=kz ((oz HB).trans (((oz HB1).trans (hb.mono (oz HB1).size)).mono (oz HB).size))
  clear hb HI p0 HX
  go_wp2_with fail
  refine (zaI true 5 w2).mono ?_
  rintro e w3 ⟨rfl,hw⟩
  rw [hw]
  clear hw
  go_wp2_with fail
  go_ret
  exact ⟨rfl,oz HB2⟩
 | false =>
  have HN:=kz (zpi C zs x1 hm h1.1 h1.2 _ hA)
  have hfa:=zkC m2 x1 x2 hm
  obtain ⟨v,ok,ev,e1,e2⟩:=zlh zs (zaz zs x1)
  rw [ev] at HN
  rw [hm] at HI
  have HQ:Hz ((ok && decide (v≤x2))=q):=kz (by
   rw [Bool.eq_iff_iff,hq2, ← hfa, ← e1]
   cases ok with
   | false =>simp
   | true =>rw [e2 rfl])
  clear hB bX h m1 m2 m3 m4 hA hq hq2 hm ev h1 hx e1 e2 hfa
  cases ok with
  | false =>
   obtain rfl:q=false:=(oz HQ).symm
   go_enter Tryz.func159,Tryz.ntmps159
   go_wp2_with fail
   refine (oz HN).mono ?_
   rintro e w1 ⟨rfl,hb⟩
   have HB1:=kz hb
   have p0:=(oz HX w1 hb).cell 0
   clear hb HN q0
   go_wp2_with fail
   refine (oz HI w1 (oz HB1)).mono ?_
   rintro e w2 ⟨rfl,hb⟩
   have HB2:=kz ((oz HB).trans (((oz HB1).trans (hb.mono (oz HB1).size)).mono (oz HB).size))
   clear hb HI p0 HX
   go_wp2_with fail
   refine (zaI false 5 w2).mono ?_
   rintro e w3 ⟨rfl,hw⟩
   rw [hw]
   clear hw
   go_wp2_with fail
   go_ret
   exact ⟨rfl,oz HB2⟩
  | true =>
   have HQ2:Hz (decide (v≤x2)=q):=kz (by have:=oz HQ;rwa [Bool.true_and] at this)
   go_enter Tryz.func159,Tryz.ntmps159
   go_wp2_with fail
   refine (oz HN).mono ?_
   rintro e w1 ⟨rfl,hb⟩
   have HB1:=kz hb
   have p0:=(oz HX w1 hb).cell 0
   clear hb HN q0
   go_wp2_with fail
   refine (oz HI w1 (oz HB1)).mono ?_
   rintro e w2 ⟨rfl,hb⟩
   have p1:=(oz HX w2 ((oz HB1).trans (hb.mono (oz HB1).size))).cell 1
   have HB2:=kz ((oz HB).trans (((oz HB1).trans (hb.mono (oz HB1).size)).mono (oz HB).size))
   clear hb HI p0 HX HQ
   go_wp2_with fail
   refine (zaI (decide (v≤x2)) 5 w2).mono ?_
   rw [oz HQ2]
   rintro e w3 ⟨rfl,hw⟩
   rw [hw]
   clear hw
   cases q
   all_goals
    go_wp2_with fail
    go_ret
    exact ⟨rfl,oz HB2⟩
theorem zqC {zs:List (Int × Int)} (h:Spread zs):zs=[] ↔ ∀ r,zan zs r=false:=by
 constructor
 ·rintro rfl r
  rfl
 ·intro hr
  cases zs with
  | nil =>rfl
  | cons x zs =>
   have:=(zpB h).1
   rw [hr] at this
   cases this
set_option maxRecDepth 100000 in
set_option maxHeartbeats 4000000 in
theorem zho {lm lh:List (Int × Int)} (hm:lm.length≤1024) (hh:lh.length≤1024) (list:Int) (Ch Cm:Nat) (q:Bool) (hq:q=true ↔ ∀ r,zan lm r=true→zan lh r=true) (w:World) (h1:SetV w lh Ch) (h2:SetV w lm Cm) :
  Calls Tryz.prog 151 #[.int .i64 list,.pointer (some ⟨Ch,0,none⟩),.pointer (some ⟨Cm,0,none⟩)] w fun e w' =>e=.returned (wrV (if q then (0,0,0) else (5,list,0)))∧Below w.heap.size w w':=by
 have hB:Below w.heap.size w (w.alloc (.cells #[.int .i64 0,.int .i64 0,.int .i64 0] 76)):=(Below.refl _ w).alloc (Nat.le_refl _) _
 have bR:=Blk.new w #[.int .i64 0,.int .i64 0,.int .i64 0] 76
 obtain ⟨ys,lo1,a1,a2,a3,a4⟩:=h1.below hB
 obtain ⟨zs,lo2,b1,b2,b3,b4⟩:=h2.below hB
 have HM:=kz (zjp Cm (some ⟨Ch,0,none⟩) zs ys (by omega) (by omega) _ (b1.set b2 (by omega)) (.inr ⟨Ch,rfl,a1.set a2 (by omega)⟩))
 have HB:=kz (And.intro hB bR)
 have HQ:Hz (∀ us,Spread us→(∀ r,zan us r=(zan zs r && !zan ys r))→(total us == 0)=q):=kz (fun us hs hr =>by
  rw [zlo hs,Bool.eq_iff_iff,decide_eq_true_eq,zqC hs,hq]
  constructor
  ·intro h r hl
   have:=h r
   rw [hr,b4,hl,Bool.true_and,a4] at this
   simpa using this
  ·intro h r
   rw [hr,b4,a4]
   cases hl:zan lm r with
   | false =>rfl
   | true =>rw [h r hl];rfl)
 have HL:=kz (And.intro a3 b3)
 clear hB bR h1 h2 a1 a2 a3 a4 b1 b2 b3 b4 hq
 go_enter Tryz.func151,Tryz.ntmps151
 go_wp2_with fail
 refine (oz HM).mono ?_
 rintro e w1 ⟨B',lo0,us,rfl,_,u1,u2,u3,u4,hb⟩
 have HU:=kz (zfD B' us w1 (u1.set u2 (by have:=oz HL;omega)))
 have HT:=kz (oz HQ us u2 u4)
 have HB1:=kz (And.intro ((oz HB).1.trans (hb.mono (oz HB).1.size)) ((oz HB).2.below hb (oz HB).2.lt))
 clear u1 u2 u3 u4 hb HM HB HQ HL
 generalize total us=tt at *
 go_wp2_with fail
 refine (oz HU).mono ?_
 rintro e w2 ⟨rfl,hb⟩
 have HB2:=kz (And.intro ((oz HB1).1.trans (hb.mono (oz HB1).1.size)) ((oz HB1).2.below hb (oz HB1).2.lt))
 clear hb HU HB1
 have r0:=(oz HB2).2.cell 0
 have r1:=(oz HB2).2.cell 1
 have r2:=(oz HB2).2.cell 2
 have f0:=(oz HB2).2.frozen 0
 have f1:=(oz HB2).2.frozen 1
 have f2:=(oz HB2).2.frozen 2
 cases q with
 | true =>
  obtain rfl:tt=0:=by simpa using oz HT
  go_wp2_with fail
  exact bodyPost_ret (v:=wrV (0,0,0)) (zco Tryz.results151 rfl (zcw (oz HB2).2 _ _ _) rfl) rfl ⟨rfl,za0 (oz HB2).1 (Nat.le_refl _) (oz HB2).1.size _ _ _⟩
 | false =>
  have t0:¬ tt=0:=by simpa using oz HT
  have t1:(tt == 0)=false:=oz HT
  go_wp2_with fail
  exact bodyPost_ret (v:=wrV (5,list,0)) (zco Tryz.results151 rfl (zcw (oz HB2).2 _ _ _) rfl) rfl ⟨rfl,za0 (oz HB2).1 (Nat.le_refl _) (oz HB2).1.size _ _ _⟩
structure StP (w:World) (BX C:Nat) (l:List (Int × Int)):Prop where
 bx:Blk w BX #[.pointer (some ⟨C,0,none⟩)] 101
 st:SetV w l C
theorem StP.below {w w':World} {BX C:Nat} {l:List (Int × Int)} (h:StP w BX C l) (hb:Below w.heap.size w w'):StP w' BX C l:=⟨h.bx.below hb h.bx.lt,h.st.below hb⟩
set_option maxRecDepth 100000 in
theorem zma {l:List (Int × Int)} (hl:l.length≤1000000) (BX C:Nat) (x1 x2:Int) (w:World) (h:StP w BX C l) :
  Calls Tryz.prog 152 #[.agg #[.int .i32 x1,.int .i64 x2],.pointer (some ⟨BX,0,none⟩)] w fun e w' =>e=.returned (.int .i64 (if zan l x1 then 5 else 0))∧Below w.heap.size w w':=by
 have hB1:Below w.heap.size w (w.alloc (.cells #[.int .i32 x1,.int .i64 x2] 115)):=(Below.refl _ w).alloc (Nat.le_refl _) _
 have b0:=(h.below hB1).bx.cell 0
 have hB2:Below w.heap.size w ((w.alloc (.cells #[.int .i32 x1,.int .i64 x2] 115)).alloc (.cells #[.int .i32 x1] 21)):=hB1.alloc (by simp) _
 have hv:[x1].any (zan l)=zan l x1:=by simp
 have HD:=kz (zea hl C [x1] (by simp) (some ⟨w.heap.size+1,0,none⟩) 1 ((w.alloc (.cells #[.int .i32 x1,.int .i64 x2] 115)).alloc (.cells #[.int .i32 x1] 21)) (h.below hB2).st (zfi (w.alloc (.cells #[.int .i32 x1,.int .i64 x2] 115)) (w.heap.size+1) x1 21 (by simp)))
 rw [hv] at HD
 have HB:=kz hB2
 clear hB1 hB2 h hv
 generalize zan l x1=bb at *
 go_enter Tryz.func152,Tryz.ntmps152
 go_wp2_with fail
 refine (oz HD).mono ?_
 rintro e w2 ⟨rfl,hb⟩
 have HB2:=kz ((oz HB).trans (hb.mono (oz HB).size))
 clear hb HB HD
 cases bb
 all_goals
  go_wp2_with fail
  go_ret
  exact ⟨rfl,oz HB2⟩
set_option maxRecDepth 100000 in
theorem zl9 {l:List (Int × Int)} (hl:l.length≤1000000) (BX C:Nat) (x1 x2 x3:Int) (w:World) (h:StP w BX C l) :
  Calls Tryz.prog 154 #[.agg #[.int .i32 x1,.int .i32 x2,.int .i32 x3],.pointer (some ⟨BX,0,none⟩)] w fun e w' =>e=.returned (.int .i64 (if zan l x1 then 5 else 0))∧Below w.heap.size w w':=by
 have hB1:Below w.heap.size w (w.alloc (.cells #[.int .i32 x1,.int .i32 x2,.int .i32 x3] 117)):=(Below.refl _ w).alloc (Nat.le_refl _) _
 have b0:=(h.below hB1).bx.cell 0
 have hB2:Below w.heap.size w ((w.alloc (.cells #[.int .i32 x1,.int .i32 x2,.int .i32 x3] 117)).alloc (.cells #[.int .i32 x1] 21)):=hB1.alloc (by simp) _
 have hv:[x1].any (zan l)=zan l x1:=by simp
 have HD:=kz (zea hl C [x1] (by simp) (some ⟨w.heap.size+1,0,none⟩) 1 ((w.alloc (.cells #[.int .i32 x1,.int .i32 x2,.int .i32 x3] 117)).alloc (.cells #[.int .i32 x1] 21)) (h.below hB2).st (zfi (w.alloc (.cells #[.int .i32 x1,.int .i32 x2,.int .i32 x3] 117)) (w.heap.size+1) x1 21 (by simp)))
 rw [hv] at HD
 have HB:=kz hB2
 clear hB1 hB2 h hv
 generalize zan l x1=bb at *
 go_enter Tryz.func154,Tryz.ntmps154
 go_wp2_with fail
 refine (oz HD).mono ?_
 rintro e w2 ⟨rfl,hb⟩
 have HB2:=kz ((oz HB).trans (hb.mono (oz HB).size))
 clear hb HB HD
 cases bb
 all_goals
  go_wp2_with fail
  go_ret
  exact ⟨rfl,oz HB2⟩
set_option maxRecDepth 100000 in
theorem zl6 {l:List (Int × Int)} (hl:l.length≤1000000) (BX C:Nat) (x1 x2:Int) (h1:R32 x1) (hx:x1≤x2) (q:Bool) (hq:q=true ↔ ∃ t,zan l t=true∧x1≤t∧t≤x2) (w:World) (h:StP w BX C l) :
  Calls Tryz.prog 158 #[.agg #[.int .i32 x1,.int .i32 x2],.pointer (some ⟨BX,0,none⟩)] w fun e w' =>e=.returned (.int .i64 (if q then 5 else 0))∧Below w.heap.size w w':=by
 have hB1:Below w.heap.size w (w.alloc (.cells #[.int .i32 x1,.int .i32 x2] 113)):=(Below.refl _ w).alloc (Nat.le_refl _) _
 have b0:=(h.below hB1).bx.cell 0
 have bX:=Blk.new w #[.int .i32 x1,.int .i32 x2] 113
 have q0:=bX.cell 0
 have q1:=bX.cell 1
 have HD:=kz (zf2 hl C x1 x2 h1 hx q hq (w.alloc (.cells #[.int .i32 x1,.int .i32 x2] 113)) (h.below hB1).st)
 have HB:=kz hB1
 clear hB1 h hq h1 hx bX
 go_enter Tryz.func158,Tryz.ntmps158
 go_wp2_with fail
 refine (oz HD).mono ?_
 rintro e w2 ⟨rfl,hb⟩
 have HB2:=kz ((oz HB).trans (hb.mono (oz HB).size))
 clear hb HB HD
 cases q
 all_goals
  go_wp2_with fail
  go_ret
  exact ⟨rfl,oz HB2⟩
set_option maxRecDepth 100000 in
theorem zl5 {l:List (Int × Int)} (hl:l.length≤1000000) (BX C:Nat) (x1 x2:Int) (h1:R32 x1) (hx:x1≤x2) (q:Bool) (hq:q=true ↔ ∃ t,zan l t=true∧x1≤t∧t≤x2) (w:World) (h:StP w BX C l) :
  Calls Tryz.prog 160 #[.agg #[.int .i32 x1,.int .i32 x2],.pointer (some ⟨BX,0,none⟩)] w fun e w' =>e=.returned (.int .i64 (if q then 5 else 0))∧Below w.heap.size w w':=by
 have hB1:Below w.heap.size w (w.alloc (.cells #[.int .i32 x1,.int .i32 x2] 113)):=(Below.refl _ w).alloc (Nat.le_refl _) _
 have b0:=(h.below hB1).bx.cell 0
 have bX:=Blk.new w #[.int .i32 x1,.int .i32 x2] 113
 have q0:=bX.cell 0
 have q1:=bX.cell 1
 have HD:=kz (zf2 hl C x1 x2 h1 hx q hq (w.alloc (.cells #[.int .i32 x1,.int .i32 x2] 113)) (h.below hB1).st)
 have HB:=kz hB1
 clear hB1 h hq h1 hx bX
 go_enter Tryz.func160,Tryz.ntmps160
 go_wp2_with fail
 refine (oz HD).mono ?_
 rintro e w2 ⟨rfl,hb⟩
 have HB2:=kz ((oz HB).trans (hb.mono (oz HB).size))
 clear hb HB HD
 cases q
 all_goals
  go_wp2_with fail
  go_ret
  exact ⟨rfl,oz HB2⟩
def zrW (P:Nat) (C:Nat) (E:Nat) (x1:Int) (x2:ByteArray) (e1:Int) (e2:Int):Nat→Value→World→Prop
 | 0,v,w =>v=.pointer (some ⟨C,0,none⟩)
 | 1,v,w =>v=.pointer (some ⟨P,0,none⟩)
 | 2,v,w =>v=.int .i32 x1
 | 3,v,w => ∃ g,v=.slice (some ⟨g,0,none⟩) 1 1∧RnC w w.heap.size (some ⟨g,0,none⟩) [x1]
 | 4,v,w =>v=.int .i64 e1
 | 5,v,w =>v=.pointer (some ⟨E,0,none⟩)
 | 6,v,w =>v=.pointer (some ⟨P,1,none⟩)
 | 7,v,w =>v=.string x2
 | 8,v,w => ∃ g c,v=.slice (some ⟨g,0,none⟩) (zah x2).length c∧RnG w g (zah x2)
 | 9,v,w =>v=.int .i64 e2
 | 10,v,w => ∃ g,v=.slice (some ⟨g,0,none⟩) 2 2∧Blk w g #[.int .i64 e1,.int .i64 e2] 74
 | 11,v,w =>v=.int .i64 (orE [e1,e2])
 | _,v,w =>True
def zrj (j:Nat):Bool:=false
theorem zcY {P:Nat} {C:Nat} {E:Nat} {x1:Int} {x2:ByteArray} {e1:Int} {e2:Int} {w w':World} (hb:Below w.heap.size w w'):∀ (j:Nat) (v:Value),zrW P C E x1 x2 e1 e2 j v w→zrW P C E x1 x2 e1 e2 j v w'
 | 0,v,h =>h
 | 1,v,h =>h
 | 2,v,h =>h
 | 3,v,h =>let ⟨g,e,h2⟩:=h; ⟨g,e,h2.below hb⟩
 | 4,v,h =>h
 | 5,v,h =>h
 | 6,v,h =>h
 | 7,v,h =>h
 | 8,v,h =>let ⟨g,c,e,h2⟩:=h; ⟨g,c,e,h2.below hb⟩
 | 9,v,h =>h
 | 10,v,h =>let ⟨g,e,h2⟩:=h; ⟨g,e,h2.below hb h2.lt⟩
 | 11,v,h =>h
 | _+12,v,h =>h
theorem zcZ {P:Nat} {C:Nat} {E:Nat} {x1:Int} {x2:ByteArray} {e1:Int} {e2:Int} {w:World} (j:Nat) (v:Value) (hm:zrj j=true) (h:zrW P C E x1 x2 e1 e2 j v w):∀ b,v.ownBlock=some b→b < w.heap.size:=by
 cases hm
set_option maxRecDepth 100000 in
set_option maxHeartbeats 4000000 in
theorem zl8 {l:List (Int × Int)} (hl:l.length≤1000000) {m:List (Int × Int)} (hm:m.length≤1000000) (BX C BY E:Nat) (x1:Int) (x2:ByteArray) (hz:x2.size≤1048576) (hn:(zah x2).length≤1000000) (w0:World) (h:StP w0 BX C l) (h2:StP w0 BY E m) :
  Calls Tryz.prog 155 #[.agg #[.int .i32 x1,.string x2],.pointer (some ⟨BX,0,none⟩),.pointer (some ⟨BY,0,none⟩)] w0 fun e w' =>e=.returned (.int .i64 (if zan l x1 || (zah x2).any (zan m) then 5 else 0))∧Below w0.heap.size w0 w':=by
 have hmx:Tryz.prog.follows .mixedOrders=true:=by kernel_rfl
 have hB0:Below w0.heap.size w0 (w0.alloc (.cells #[.int .i32 x1,.string x2] 119)).drew:=((Below.refl _ w0).alloc (Nat.le_refl _) _).trans ⟨rfl,rfl,rfl,Nat.le_refl _,fun _ _ =>rfl⟩
 have bX:Blk (w0.alloc (.cells #[.int .i32 x1,.string x2] 119)).drew w0.heap.size #[.int .i32 x1,.string x2] 119:=Blk.new w0 _ _
 have hU:=h.below hB0
 have hU2:=h2.below hB0
 have HF:Hz (∀ w1,Below (w0.alloc (.cells #[.int .i32 x1,.string x2] 119)).drew.heap.size (w0.alloc (.cells #[.int .i32 x1,.string x2] 119)).drew w1→Blk w1 w0.heap.size #[.int .i32 x1,.string x2] 119∧StP w1 BX C l∧StP w1 BY E m):=kz (fun w1 h1 =>⟨bX.below h1 bX.lt,hU.below h1,hU2.below h1⟩)
 have HB:=kz hB0
 have HZ:=kz hz
 have HN:=kz hn
 have HLN:=kz (And.intro hl hm)
 obtain ⟨e1,he1⟩:∃ z:Int,(if [x1].any (zan l) then 5 else 0)=z:=⟨_,rfl⟩
 obtain ⟨e2,he2⟩:∃ z:Int,(if (zah x2).any (zan m) then 5 else 0)=z:=⟨_,rfl⟩
 have HFI:Hz ((if zan l x1 || (zah x2).any (zan m) then 5 else 0:Int)=orE [e1,e2]):=kz (by
  rw [← he1, ← he2,show [x1].any (zan l)=zan l x1 by simp]
  cases zan l x1 <;> cases (zah x2).any (zan m) <;> rfl)
 rw [oz HFI]
 have HE1:=kz he1
 have HE2:=kz he2
 clear hB0 bX hU hU2 h h2 he1 he2 hz hn HFI
 go_enter Tryz.func155,Tryz.ntmps155
 go_wp2_with fail
 generalize (w0.alloc (.cells #[.int .i32 x1,.string x2] 119))=wz at *
 refine zao hmx 12 (by decide) (by kernel_rfl) (by kernel_rfl) (fun l a w => ∃ U:Nat→Value,a = { tmps:=#[.agg #[.int .i32 x1,.string x2],.pointer (some ⟨BX,0,none⟩),.pointer (some ⟨BY,0,none⟩),.pointer (some ⟨w0.heap.size,0,none⟩),.int .i64 0,U 0,U 1,U 2,U 3,U 4,U 5,U 6,U 7,U 8,U 9,U 10,U 11],defers := [] }∧RgJ (wz.drew) (wz.drew.heap.size) (zrW w0.heap.size C E x1 x2 e1 e2) zrj l U w) ⟨fun _ =>undef,rfl,RgJ.start _ _ (Nat.le_refl _)⟩ ?_ ?_
 ·rintro l a w i ⟨U,rfl,hJ⟩ hl hi hif
  have h0:=(mem_ready.1 hi).1
  have hlt:=zdB hl h0
  have HJ:=kz hJ
  clear hJ hl
  replace hlt:i < 13:=hlt
  obtain rfl | rfl | rfl | rfl | rfl | rfl | rfl | rfl | rfl | rfl | rfl | rfl:i=0∨i=1∨i=2∨i=3∨i=4∨i=5∨i=6∨i=7∨i=8∨i=9∨i=10∨i=11:=by omega
  ·refine wpOp_step rfl (fun K hK =>?_)
   clear hlt hif
   have q0:=(oz HF w (oz HJ).bel).2.1.bx.cell 0
   go_simp
   exact hK _ _ ⟨zaa U 0 _,rfl,(oz HJ).put 0 _ h0 (Below.refl _ _) (zcY (Below.refl _ _)) rfl zcZ (fun h =>absurd h (by decide))⟩
  ·refine wpOp_step rfl (fun K hK =>?_)
   clear hlt hif
   go_simp
   exact hK _ _ ⟨zaa U 1 _,rfl,(oz HJ).put 1 _ h0 (Below.refl _ _) (zcY (Below.refl _ _)) rfl zcZ (fun h =>absurd h (by decide))⟩
  ·refine wpOp_step rfl (fun K hK =>?_)
   clear hlt hif
   have d1:U 1=.pointer (some ⟨w0.heap.size,0,none⟩):=(oz HJ).val 1 (zab hi 1 (by kernel_rfl))
   have q1:=(oz HF w (oz HJ).bel).1.cell 0
   go_simp
   exact hK _ _ ⟨zaa U 2 _,(by rw [zac d1];rfl),(oz HJ).put 2 _ h0 (Below.refl _ _) (zcY (Below.refl _ _)) rfl zcZ (fun h =>absurd h (by decide))⟩
  ·refine wpOp_step rfl (fun K hK =>?_)
   clear hlt hif
   have d2:U 2=.int .i32 x1:=(oz HJ).val 2 (zab hi 2 (by kernel_rfl))
   go_simp
   exact hK _ _ ⟨zaa U 3 _,(by rw [zac d2];rfl),(oz HJ).put 3 _ h0 ((Below.refl _ _).alloc (Nat.le_refl _) _) (zcY ((Below.refl _ _).alloc (Nat.le_refl _) _)) ⟨_,rfl,zfi w _ x1 _ rfl⟩ zcZ (fun h =>absurd h (by decide))⟩
  ·refine wpOp_step rfl (fun K hK =>?_)
   clear hlt hif
   have d0:U 0=.pointer (some ⟨C,0,none⟩):=(oz HJ).val 0 (zab hi 0 (by kernel_rfl))
   obtain ⟨g3,d3,h3⟩:=(oz HJ).val 3 (zab hi 3 (by kernel_rfl))
   go_simp
   refine (zea (oz HLN).1 C [x1] (by simp) _ _ w (oz HF w (oz HJ).bel).2.1.st h3).mono ?_
   rw [oz HE1]
   rintro e w' ⟨rfl,hb⟩
   exact hK _ _ ⟨zaa U 4 _,(by rw [zac d0,zac d3];rfl),(oz HJ).put 4 _ h0 hb (zcY hb) rfl zcZ (fun h =>absurd h (by decide))⟩
  ·refine wpOp_step rfl (fun K hK =>?_)
   clear hlt hif
   have q0:=(oz HF w (oz HJ).bel).2.2.bx.cell 0
   go_simp
   exact hK _ _ ⟨zaa U 5 _,rfl,(oz HJ).put 5 _ h0 (Below.refl _ _) (zcY (Below.refl _ _)) rfl zcZ (fun h =>absurd h (by decide))⟩
  ·refine wpOp_step rfl (fun K hK =>?_)
   clear hlt hif
   go_simp
   exact hK _ _ ⟨zaa U 6 _,rfl,(oz HJ).put 6 _ h0 (Below.refl _ _) (zcY (Below.refl _ _)) rfl zcZ (fun h =>absurd h (by decide))⟩
  ·refine wpOp_step rfl (fun K hK =>?_)
   clear hlt hif
   have d6:U 6=.pointer (some ⟨w0.heap.size,1,none⟩):=(oz HJ).val 6 (zab hi 6 (by kernel_rfl))
   have q1:=(oz HF w (oz HJ).bel).1.cell 1
   go_simp
   exact hK _ _ ⟨zaa U 7 _,(by rw [zac d6];rfl),(oz HJ).put 7 _ h0 (Below.refl _ _) (zcY (Below.refl _ _)) rfl zcZ (fun h =>absurd h (by decide))⟩
  ·refine wpOp_step rfl (fun K hK =>?_)
   clear hlt hif
   have d7:U 7=.string x2:=(oz HJ).val 7 (zab hi 7 (by kernel_rfl))
   go_simp
   refine (zja x2 (oz HZ) _).mono ?_
   rintro e w' ⟨g2,c2,rfl,hg2,hrn,hb⟩
   exact hK _ _ ⟨zaa U 8 _,(by rw [zac d7];rfl),(oz HJ).put 8 _ h0 hb (zcY hb) ⟨g2,c2,rfl,hrn⟩ zcZ (fun h =>absurd h (by decide))⟩
  ·refine wpOp_step rfl (fun K hK =>?_)
   clear hlt hif
   have d5:U 5=.pointer (some ⟨E,0,none⟩):=(oz HJ).val 5 (zab hi 5 (by kernel_rfl))
   obtain ⟨g8,c8,d8,h8⟩:=(oz HJ).val 8 (zab hi 8 (by kernel_rfl))
   go_simp
   refine (zea (oz HLN).2 E (zah x2) (oz HN) _ _ w (oz HF w (oz HJ).bel).2.2.st (zkV h8)).mono ?_
   rw [oz HE2]
   rintro e w' ⟨rfl,hb⟩
   exact hK _ _ ⟨zaa U 9 _,(by rw [zac d5,zac d8];rfl),(oz HJ).put 9 _ h0 hb (zcY hb) rfl zcZ (fun h =>absurd h (by decide))⟩
  ·refine wpOp_step rfl (fun K hK =>?_)
   clear hlt hif
   have d4:U 4=.int .i64 e1:=(oz HJ).val 4 (zab hi 4 (by kernel_rfl))
   have d9:U 9=.int .i64 e2:=(oz HJ).val 9 (zab hi 9 (by kernel_rfl))
   go_simp
   exact hK _ _ ⟨zaa U 10 _,(by rw [zac d4,zac d9];rfl),(oz HJ).put 10 _ h0 ((Below.refl _ _).alloc (Nat.le_refl _) _) (zcY ((Below.refl _ _).alloc (Nat.le_refl _) _)) ⟨_,rfl,Blk.new w _ _⟩ zcZ (fun h =>absurd h (by decide))⟩
  ·refine wpOp_step rfl (fun K hK =>?_)
   clear hlt hif
   obtain ⟨g10,d10,h10⟩:=(oz HJ).val 10 (zab hi 10 (by kernel_rfl))
   go_simp
   refine (zbr [e1,e2] (by simp) _ 0 _ _ (zf6 h10)).mono ?_
   rintro e w' ⟨rfl,rfl⟩
   exact hK _ _ ⟨zaa U 11 _,(by rw [zac d10];rfl),(oz HJ).put 11 _ h0 (Below.refl _ _) (zcY (Below.refl _ _)) rfl zcZ (fun h =>absurd h (by decide))⟩
 ·rintro l a w ⟨U,rfl,hJ⟩ hall
  have d11:U 11=.int .i64 (orE [e1,e2]):=hJ.val 11 (hall 11 (by decide) (by decide))
  have HBJ:=kz ((oz HB).trans (hJ.bel.mono (oz HB).size))
  clear hJ hall
  refine wpOp_step rfl (fun K hK =>?_)
  obtain ⟨zz,hzz⟩:∃ zz,orE [e1,e2]=zz:=⟨_,rfl⟩
  rw [hzz] at d11
  have HZZ:=kz hzz
  clear hzz
  go_simp
  refine hK _ _ ?_
  clear hK
  go_wp2_with fail
  go_ret
  exact ⟨by rw [oz HZZ];rfl,oz HBJ⟩
def zrV (P:Nat) (C:Nat) (E:Nat) (x1:Int) (x2:ByteArray) (e1:Int) (e2:Int):Nat→Value→World→Prop
 | 0,v,w =>v=.pointer (some ⟨C,0,none⟩)
 | 1,v,w =>v=.pointer (some ⟨P,0,none⟩)
 | 2,v,w =>v=.int .i32 x1
 | 3,v,w => ∃ g,v=.slice (some ⟨g,0,none⟩) 1 1∧RnC w w.heap.size (some ⟨g,0,none⟩) [x1]
 | 4,v,w =>v=.int .i64 e1
 | 5,v,w =>v=.pointer (some ⟨C,0,none⟩)
 | 6,v,w =>v=.pointer (some ⟨P,1,none⟩)
 | 7,v,w =>v=.string x2
 | 8,v,w => ∃ g c,v=.slice (some ⟨g,0,none⟩) (zah x2).length c∧RnG w g (zah x2)
 | 9,v,w =>v=.int .i64 e2
 | 10,v,w => ∃ g,v=.slice (some ⟨g,0,none⟩) 2 2∧Blk w g #[.int .i64 e1,.int .i64 e2] 74
 | 11,v,w =>v=.int .i64 (orE [e1,e2])
 | _,v,w =>True
def zri (j:Nat):Bool:=false
theorem zcW {P:Nat} {C:Nat} {E:Nat} {x1:Int} {x2:ByteArray} {e1:Int} {e2:Int} {w w':World} (hb:Below w.heap.size w w'):∀ (j:Nat) (v:Value),zrV P C E x1 x2 e1 e2 j v w→zrV P C E x1 x2 e1 e2 j v w'
 | 0,v,h =>h
 | 1,v,h =>h
 | 2,v,h =>h
 | 3,v,h =>let ⟨g,e,h2⟩:=h; ⟨g,e,h2.below hb⟩
 | 4,v,h =>h
 | 5,v,h =>h
 | 6,v,h =>h
 | 7,v,h =>h
 | 8,v,h =>let ⟨g,c,e,h2⟩:=h; ⟨g,c,e,h2.below hb⟩
 | 9,v,h =>h
 | 10,v,h =>let ⟨g,e,h2⟩:=h; ⟨g,e,h2.below hb h2.lt⟩
 | 11,v,h =>h
 | _+12,v,h =>h
theorem zcX {P:Nat} {C:Nat} {E:Nat} {x1:Int} {x2:ByteArray} {e1:Int} {e2:Int} {w:World} (j:Nat) (v:Value) (hm:zri j=true) (h:zrV P C E x1 x2 e1 e2 j v w):∀ b,v.ownBlock=some b→b < w.heap.size:=by
 cases hm
set_option maxRecDepth 100000 in
set_option maxHeartbeats 4000000 in
theorem zl7 {l:List (Int × Int)} (hl:l.length≤1000000) (BX C:Nat) (x1:Int) (x2:ByteArray) (hz:x2.size≤1048576) (hn:(zah x2).length≤1000000) (w0:World) (h:StP w0 BX C l) :
  Calls Tryz.prog 156 #[.agg #[.int .i32 x1,.string x2],.pointer (some ⟨BX,0,none⟩)] w0 fun e w' =>e=.returned (.int .i64 (if zan l x1 || (zah x2).any (zan l) then 5 else 0))∧Below w0.heap.size w0 w':=by
 have hmx:Tryz.prog.follows .mixedOrders=true:=by kernel_rfl
 have hB0:Below w0.heap.size w0 (w0.alloc (.cells #[.int .i32 x1,.string x2] 119)).drew:=((Below.refl _ w0).alloc (Nat.le_refl _) _).trans ⟨rfl,rfl,rfl,Nat.le_refl _,fun _ _ =>rfl⟩
 have bX:Blk (w0.alloc (.cells #[.int .i32 x1,.string x2] 119)).drew w0.heap.size #[.int .i32 x1,.string x2] 119:=Blk.new w0 _ _
 have hU:=h.below hB0
 have hU2:=h.below hB0
 have HF:Hz (∀ w1,Below (w0.alloc (.cells #[.int .i32 x1,.string x2] 119)).drew.heap.size (w0.alloc (.cells #[.int .i32 x1,.string x2] 119)).drew w1→Blk w1 w0.heap.size #[.int .i32 x1,.string x2] 119∧StP w1 BX C l∧StP w1 BX C l):=kz (fun w1 h1 =>⟨bX.below h1 bX.lt,hU.below h1,hU2.below h1⟩)
 have HB:=kz hB0
 have HZ:=kz hz
 have HN:=kz hn
 have HLN:=kz (And.intro hl hl)
 obtain ⟨e1,he1⟩:∃ z:Int,(if [x1].any (zan l) then 5 else 0)=z:=⟨_,rfl⟩
 obtain ⟨e2,he2⟩:∃ z:Int,(if (zah x2).any (zan l) then 5 else 0)=z:=⟨_,rfl⟩
 have HFI:Hz ((if zan l x1 || (zah x2).any (zan l) then 5 else 0:Int)=orE [e1,e2]):=kz (by
  rw [← he1, ← he2,show [x1].any (zan l)=zan l x1 by simp]
  cases zan l x1 <;> cases (zah x2).any (zan l) <;> rfl)
 rw [oz HFI]
 have HE1:=kz he1
 have HE2:=kz he2
 clear hB0 bX hU hU2 h he1 he2 hz hn HFI
 go_enter Tryz.func156,Tryz.ntmps156
 go_wp2_with fail
 generalize (w0.alloc (.cells #[.int .i32 x1,.string x2] 119))=wz at *
 refine zao hmx 12 (by decide) (by kernel_rfl) (by kernel_rfl) (fun l a w => ∃ U:Nat→Value,a = { tmps:=#[.agg #[.int .i32 x1,.string x2],.pointer (some ⟨BX,0,none⟩),.pointer (some ⟨w0.heap.size,0,none⟩),.int .i64 0,U 0,U 1,U 2,U 3,U 4,U 5,U 6,U 7,U 8,U 9,U 10,U 11],defers := [] }∧RgJ (wz.drew) (wz.drew.heap.size) (zrV w0.heap.size C C x1 x2 e1 e2) zri l U w) ⟨fun _ =>undef,rfl,RgJ.start _ _ (Nat.le_refl _)⟩ ?_ ?_
 ·rintro l a w i ⟨U,rfl,hJ⟩ hl hi hif
  have h0:=(mem_ready.1 hi).1
  have hlt:=zdB hl h0
  have HJ:=kz hJ
  clear hJ hl
  replace hlt:i < 13:=hlt
  obtain rfl | rfl | rfl | rfl | rfl | rfl | rfl | rfl | rfl | rfl | rfl | rfl:i=0∨i=1∨i=2∨i=3∨i=4∨i=5∨i=6∨i=7∨i=8∨i=9∨i=10∨i=11:=by omega
  ·refine wpOp_step rfl (fun K hK =>?_)
   clear hlt hif
   have q0:=(oz HF w (oz HJ).bel).2.1.bx.cell 0
   go_simp
   exact hK _ _ ⟨zaa U 0 _,rfl,(oz HJ).put 0 _ h0 (Below.refl _ _) (zcW (Below.refl _ _)) rfl zcX (fun h =>absurd h (by decide))⟩
  ·refine wpOp_step rfl (fun K hK =>?_)
   clear hlt hif
   go_simp
   exact hK _ _ ⟨zaa U 1 _,rfl,(oz HJ).put 1 _ h0 (Below.refl _ _) (zcW (Below.refl _ _)) rfl zcX (fun h =>absurd h (by decide))⟩
  ·refine wpOp_step rfl (fun K hK =>?_)
   clear hlt hif
   have d1:U 1=.pointer (some ⟨w0.heap.size,0,none⟩):=(oz HJ).val 1 (zab hi 1 (by kernel_rfl))
   have q1:=(oz HF w (oz HJ).bel).1.cell 0
   go_simp
   exact hK _ _ ⟨zaa U 2 _,(by rw [zac d1];rfl),(oz HJ).put 2 _ h0 (Below.refl _ _) (zcW (Below.refl _ _)) rfl zcX (fun h =>absurd h (by decide))⟩
  ·refine wpOp_step rfl (fun K hK =>?_)
   clear hlt hif
   have d2:U 2=.int .i32 x1:=(oz HJ).val 2 (zab hi 2 (by kernel_rfl))
   go_simp
   exact hK _ _ ⟨zaa U 3 _,(by rw [zac d2];rfl),(oz HJ).put 3 _ h0 ((Below.refl _ _).alloc (Nat.le_refl _) _) (zcW ((Below.refl _ _).alloc (Nat.le_refl _) _)) ⟨_,rfl,zfi w _ x1 _ rfl⟩ zcX (fun h =>absurd h (by decide))⟩
  ·refine wpOp_step rfl (fun K hK =>?_)
   clear hlt hif
   have d0:U 0=.pointer (some ⟨C,0,none⟩):=(oz HJ).val 0 (zab hi 0 (by kernel_rfl))
   obtain ⟨g3,d3,h3⟩:=(oz HJ).val 3 (zab hi 3 (by kernel_rfl))
   go_simp
   refine (zea (oz HLN).1 C [x1] (by simp) _ _ w (oz HF w (oz HJ).bel).2.1.st h3).mono ?_
   rw [oz HE1]
   rintro e w' ⟨rfl,hb⟩
   exact hK _ _ ⟨zaa U 4 _,(by rw [zac d0,zac d3];rfl),(oz HJ).put 4 _ h0 hb (zcW hb) rfl zcX (fun h =>absurd h (by decide))⟩
  ·refine wpOp_step rfl (fun K hK =>?_)
   clear hlt hif
   have q0:=(oz HF w (oz HJ).bel).2.2.bx.cell 0
   go_simp
   exact hK _ _ ⟨zaa U 5 _,rfl,(oz HJ).put 5 _ h0 (Below.refl _ _) (zcW (Below.refl _ _)) rfl zcX (fun h =>absurd h (by decide))⟩
  ·refine wpOp_step rfl (fun K hK =>?_)
   clear hlt hif
   go_simp
   exact hK _ _ ⟨zaa U 6 _,rfl,(oz HJ).put 6 _ h0 (Below.refl _ _) (zcW (Below.refl _ _)) rfl zcX (fun h =>absurd h (by decide))⟩
  ·refine wpOp_step rfl (fun K hK =>?_)
   clear hlt hif
   have d6:U 6=.pointer (some ⟨w0.heap.size,1,none⟩):=(oz HJ).val 6 (zab hi 6 (by kernel_rfl))
   have q1:=(oz HF w (oz HJ).bel).1.cell 1
   go_simp
   exact hK _ _ ⟨zaa U 7 _,(by rw [zac d6];rfl),(oz HJ).put 7 _ h0 (Below.refl _ _) (zcW (Below.refl _ _)) rfl zcX (fun h =>absurd h (by decide))⟩
  ·refine wpOp_step rfl (fun K hK =>?_)
   clear hlt hif
   have d7:U 7=.string x2:=(oz HJ).val 7 (zab hi 7 (by kernel_rfl))
   go_simp
   refine (zja x2 (oz HZ) _).mono ?_
   rintro e w' ⟨g2,c2,rfl,hg2,hrn,hb⟩
   exact hK _ _ ⟨zaa U 8 _,(by rw [zac d7];rfl),(oz HJ).put 8 _ h0 hb (zcW hb) ⟨g2,c2,rfl,hrn⟩ zcX (fun h =>absurd h (by decide))⟩
  ·refine wpOp_step rfl (fun K hK =>?_)
   clear hlt hif
   have d5:U 5=.pointer (some ⟨C,0,none⟩):=(oz HJ).val 5 (zab hi 5 (by kernel_rfl))
   obtain ⟨g8,c8,d8,h8⟩:=(oz HJ).val 8 (zab hi 8 (by kernel_rfl))
   go_simp
   refine (zea (oz HLN).2 C (zah x2) (oz HN) _ _ w (oz HF w (oz HJ).bel).2.2.st (zkV h8)).mono ?_
   rw [oz HE2]
   rintro e w' ⟨rfl,hb⟩
   exact hK _ _ ⟨zaa U 9 _,(by rw [zac d5,zac d8];rfl),(oz HJ).put 9 _ h0 hb (zcW hb) rfl zcX (fun h =>absurd h (by decide))⟩
  ·refine wpOp_step rfl (fun K hK =>?_)
   clear hlt hif
   have d4:U 4=.int .i64 e1:=(oz HJ).val 4 (zab hi 4 (by kernel_rfl))
   have d9:U 9=.int .i64 e2:=(oz HJ).val 9 (zab hi 9 (by kernel_rfl))
   go_simp
   exact hK _ _ ⟨zaa U 10 _,(by rw [zac d4,zac d9];rfl),(oz HJ).put 10 _ h0 ((Below.refl _ _).alloc (Nat.le_refl _) _) (zcW ((Below.refl _ _).alloc (Nat.le_refl _) _)) ⟨_,rfl,Blk.new w _ _⟩ zcX (fun h =>absurd h (by decide))⟩
  ·refine wpOp_step rfl (fun K hK =>?_)
   clear hlt hif
   obtain ⟨g10,d10,h10⟩:=(oz HJ).val 10 (zab hi 10 (by kernel_rfl))
   go_simp
   refine (zbr [e1,e2] (by simp) _ 0 _ _ (zf6 h10)).mono ?_
   rintro e w' ⟨rfl,rfl⟩
   exact hK _ _ ⟨zaa U 11 _,(by rw [zac d10];rfl),(oz HJ).put 11 _ h0 (Below.refl _ _) (zcW (Below.refl _ _)) rfl zcX (fun h =>absurd h (by decide))⟩
 ·rintro l a w ⟨U,rfl,hJ⟩ hall
  have d11:U 11=.int .i64 (orE [e1,e2]):=hJ.val 11 (hall 11 (by decide) (by decide))
  have HBJ:=kz ((oz HB).trans (hJ.bel.mono (oz HB).size))
  clear hJ hall
  refine wpOp_step rfl (fun K hK =>?_)
  obtain ⟨zz,hzz⟩:∃ zz,orE [e1,e2]=zz:=⟨_,rfl⟩
  rw [hzz] at d11
  have HZZ:=kz hzz
  clear hzz
  go_simp
  refine hK _ _ ?_
  clear hK
  go_wp2_with fail
  go_ret
  exact ⟨by rw [oz HZZ];rfl,oz HBJ⟩
def zml:List (Int × Int) := [(0,127)]++[(65533,65533)]
def zn3:List (Int × Int) := [(0,64),(91,127),(65533,65533),(65533,65533)]
def zql:List (Int × Int) := [(0,31),(45,46),(65533,65533)]
def zrJ:List (Int × Int) := [(45,46),(48,57)]
def zn7:List (Int × Int) := [(45,45),(48,57),(97,122)]
def zrf:List (Int × Int) := [(0,44),(46,47),(58,96),(123,127),(123,127)]
theorem zk6 {r:Int} (h:zaq r=true):zan zml r=zgF r:=by
 have:=za3 h
 unfold zan zgF zml
 rw [h,Bool.and_true,Bool.eq_iff_iff]
 simp
 omega
theorem zrh {r:Int} (h:zaq r=true):zan zn3 r=(zgF r && decide (r < 65∨90 < r)):=by
 have:=za3 h
 unfold zan zgF zn3
 rw [h,Bool.and_true,Bool.eq_iff_iff]
 simp
 omega
theorem zmH {r:Int} (h:zaq r=true):zan zql r=zi8 r:=by
 have:=za3 h
 unfold zan zi8 zql
 rw [h,Bool.and_true,Bool.eq_iff_iff]
 simp
 omega
theorem znZ (s:ByteArray):(zah s).any (zan zql)=zfo s:=by
 unfold zfo
 rw [Bool.eq_iff_iff,List.any_eq_true,List.any_eq_true]
 constructor
 ·rintro ⟨x,hx,e⟩
  exact ⟨x,hx,by rw [← zmH (zge hx)];exact e⟩
 ·rintro ⟨x,hx,e⟩
  exact ⟨x,hx,by rw [zmH (zge hx)];exact e⟩
theorem zqa (r:Int):zan zn3 r=(zan zml r && !zan [(65,90)] r):=by
 unfold zan zn3 zml
 cases zaq r with
 | false =>simp
 | true =>
  rw [Bool.and_true,Bool.and_true,Bool.and_true,Bool.eq_iff_iff]
  simp
  omega
theorem zkk (r:Int):zan zrf r=(zan [(0,127)] r && !zan zn7 r):=by
 unfold zan zrf zn7
 cases zaq r with
 | false =>simp
 | true =>
  rw [Bool.and_true,Bool.and_true,Bool.and_true,Bool.eq_iff_iff]
  simp
  omega
theorem zhY {r:Int} (h0:0≤r) (h1:r≤127):zaq r=true:=by
 unfold zaq
 simp
 omega
theorem zlL {x:Int × Int} (h1:zaq x.1=true) (h:x.1≤x.2):decide (x.1 < 128∨(x.1≤65533∧65533≤x.2))=true ↔ ∃ t,zan zml t=true∧x.1≤t∧t≤x.2:=by
 have hr:=za3 h1
 rw [decide_eq_true_eq]
 constructor
 ·rintro (c | c)
  ·exact ⟨x.1,by rw [zk6 h1];simp [zgF,c],Int.le_refl _,h⟩
  ·exact ⟨65533,by decide,c.1,c.2⟩
 ·rintro ⟨t,ht,h2,h3⟩
  have hrt:=((zaD zml t).1 ht).2
  rw [zk6 hrt] at ht
  simp [zgF] at ht
  omega
theorem zqM (k:Int):zjS k=true ↔ k=45∨(48≤k∧k≤57)∨(97≤k∧k≤122):=by
 unfold zjS
 rw [decide_eq_true_eq]
theorem znq {r:Int} (h:zaq r=true):zan zn7 r=zjS r:=by
 unfold zan zn7
 rw [h,Bool.and_true,Bool.eq_iff_iff,zqM]
 simp
 omega
theorem zlI {x:Int × Int}:(List.range 128).any (fun k =>decide (x.1≤(k:Int)∧(k:Int)≤x.2) && !zjS k)=true ↔ ∃ t,zan zrf t=true∧x.1≤t∧t≤x.2:=by
 rw [List.any_eq_true]
 constructor
 ·rintro ⟨k,hk,e⟩
  rw [Bool.and_eq_true,decide_eq_true_eq] at e
  have hk:=List.mem_range.1 hk
  have hr:zaq (k:Int)=true:=zhY (by omega) (by omega)
  refine ⟨k, ?_,e.1.1,e.1.2⟩
  rw [zkk,znq hr,e.2,Bool.and_true,zaD]
  exact ⟨⟨(0,127),by simp,by dsimp only;omega,by dsimp only;omega⟩,hr⟩
 ·rintro ⟨t,ht,h2,h3⟩
  rw [zkk,Bool.and_eq_true] at ht
  obtain ⟨ha,hb⟩:=ht
  obtain ⟨⟨y,hy,h4,h5⟩,hr⟩:=(zaD _ _).1 ha
  obtain rfl:y=(0,127):=by simpa using hy
  dsimp only at h4 h5
  refine ⟨t.toNat,List.mem_range.2 (by omega), ?_⟩
  rw [show ((t.toNat:Nat):Int)=t by omega, ← znq hr,hb,Bool.and_true,decide_eq_true_eq]
  exact ⟨h2,h3⟩
theorem zq5 {r:Int} (h:zan zrJ r=true):r ∈ comL:=by
 obtain ⟨⟨y,hy,h4,h5⟩,hr⟩:=(zaD _ _).1 h
 simp [zrJ] at hy
 rcases hy with rfl | rfl
 all_goals
  dsimp only at h4 h5
  simp [comL]
  omega
theorem zpH (l:List (Int × Int)):comL.all (fun r =>zan l r)=true ↔ ∀ r,zan zrJ r=true→zan l r=true:=by
 rw [List.all_eq_true]
 constructor
 ·intro h r hr
  exact h r (zq5 hr)
 ·intro h r hr
  refine h r ?_
  simp [comL] at hr
  rcases hr with rfl | rfl | rfl | rfl | rfl | rfl | rfl | rfl | rfl | rfl | rfl | rfl
  all_goals decide
theorem zpu {r:Int} (h:zan zn7 r=true):r ∈ labL:=by
 obtain ⟨⟨y,hy,h4,h5⟩,hr⟩:=(zaD _ _).1 h
 unfold labL
 rw [List.mem_append]
 simp [zn7] at hy
 rcases hy with rfl | rfl | rfl
 ·dsimp only at h4 h5
  refine .inl ?_
  simp
  omega
 ·dsimp only at h4 h5
  refine .inl ?_
  simp
  omega
 ·dsimp only at h4 h5
  refine .inr (List.mem_map.2 ⟨(r - 97).toNat,List.mem_range.2 (by omega),by omega⟩)
theorem zpv (l:List (Int × Int)):labL.all (fun r =>zan l r)=true ↔ ∀ r,zan zn7 r=true→zan l r=true:=by
 rw [List.all_eq_true]
 constructor
 ·intro h r hr
  exact h r (zpu hr)
 ·intro h r hr
  refine h r ?_
  unfold labL at hr
  rw [List.mem_append] at hr
  rcases hr with hr | hr
  ·simp at hr
   rcases hr with rfl | rfl | rfl | rfl | rfl | rfl | rfl | rfl | rfl | rfl | rfl
   all_goals decide
  ·obtain ⟨k,hk,rfl⟩:=List.mem_map.1 hr
   have:=List.mem_range.1 hk
   rw [zaD]
   exact ⟨⟨(97,122),by simp [zn7],by dsimp only;omega,by dsimp only;omega⟩,zhY (by omega) (by omega)⟩
theorem zrO {w:World} {g:Nat} {l:List (Int × Int)} {cs:Array Value} {t:TypeId} (b:Blk w g cs t) (e:cs=(zaW l).toArray):RowC w w.heap.size (some ⟨g,0,none⟩) (zaW l):=fun _ =>⟨g,0,rfl,b.lt,fun j v hv =>by
 rw [Nat.zero_add,b.cell j,e,List.getElem?_toArray]
 exact hv⟩
theorem zdf (l:List (Int × Int)) (n:Nat) (hn:n=l.length) (hl:l.length≤10) (hR:zbb l) (g:Nat) (cs:Array Value) (t:TypeId) (w:World) (b:Blk w g cs t) (e:cs=(zaW l).toArray) :
  Calls Tryz.prog 75 #[.slice (some ⟨g,0,none⟩) n n] w fun e w' => ∃ (B:Nat),e=.returned (.pointer (some ⟨B,0,none⟩))∧SetV w' l B∧Below w.heap.size w w':=by
 subst hn
 exact zdV _ _ l (by omega) hR w (zei (zrO b e) (Nat.le_refl _))
theorem zlj {l1 l2:List (Int × Int)} {C1 C2:Nat} {w:World} (n1:l1.length≤5000) (n2:l2.length≤5000) (h1:SetV w l1 C1) (h2:SetV w l2 C2) :
  Calls Tryz.prog 149 #[.pointer (some ⟨C1,0,none⟩),.pointer (some ⟨C2,0,none⟩)] w fun e w' => ∃ (B:Nat),e=.returned (.pointer (some ⟨B,0,none⟩))∧SetV w' (l1++l2) B∧Below w.heap.size w w':=by
 obtain ⟨zs,lo1,a1,a2,a3,a4⟩:=h1
 obtain ⟨ys,lo2,b1,b2,b3,b4⟩:=h2
 refine (zms C1 (some ⟨C2,0,none⟩) zs ys (by omega) (by omega) w (a1.set a2 (by omega)) (.inr ⟨C2,rfl,b1.set b2 (by omega)⟩)).mono ?_
 rintro e w' ⟨B',lo0,us,rfl,_,u1,u2,u3,u4,hb⟩
 exact ⟨B',rfl,⟨us,lo0,u1,u2,by rw [List.length_append];omega,fun r =>by rw [u4,a4,b4,zbI]⟩,hb⟩
theorem zh1 {l1 l2 l:List (Int × Int)} {C1 C2:Nat} {w:World} (n1:l1.length≤2000) (n2:l2.length≤2000) (hl:l1.length+l2.length+1≤l.length) (hm:∀ r,zan l r=(zan l1 r && !zan l2 r)) (h1:SetV w l1 C1) (h2:SetV w l2 C2) :
  Calls Tryz.prog 150 #[.pointer (some ⟨C1,0,none⟩),.pointer (some ⟨C2,0,none⟩)] w fun e w' => ∃ (B:Nat),e=.returned (.pointer (some ⟨B,0,none⟩))∧SetV w' l B∧Below w.heap.size w w':=by
 obtain ⟨zs,lo1,a1,a2,a3,a4⟩:=h1
 obtain ⟨ys,lo2,b1,b2,b3,b4⟩:=h2
 refine (zjp C1 (some ⟨C2,0,none⟩) zs ys (by omega) (by omega) w (a1.set a2 (by omega)) (.inr ⟨C2,rfl,b1.set b2 (by omega)⟩)).mono ?_
 rintro e w' ⟨B',lo0,us,rfl,_,u1,u2,u3,u4,hb⟩
 exact ⟨B',rfl,⟨us,lo0,u1,u2,by omega,fun r =>by rw [u4,a4,b4,hm]⟩,hb⟩
end Go.Proofs.YtmemedpoaocdkaaGreat
