/- Texts of this claim, one behind the other. -/
import Derived.Test.YtmemedpoaocdkaaGreatM6
namespace Go.Proofs.YtmemedpoaocdkaaGreat
open Go.RowKit Go.Shelf
set_option linter.unusedVariables false
set_option maxRecDepth 100000
set_option maxHeartbeats 8000000
theorem zeV {l:List (Int × Int)} {k:Nat} {x y:Int × Int} (hx:l[k+1]?=some x) (hy:l[k]?=some y):zaP l (k+1)=if zbe x≠0 then zbe x else if x.1≤y.2 then 13 else 0:=by
 unfold zaP
 rw [zb1 hx,show k+1 - 1=k from rfl,zb1 hy]
 by_cases h:zbe x≠0
 ·rw [if_pos h,if_pos h]
 ·rw [if_neg h,if_neg h]
  by_cases h2:x.1≤y.2
  ·rw [if_pos ⟨by omega,h2⟩,if_pos h2]
  ·rw [if_neg (fun e =>h2 e.2),if_neg h2]
theorem zdH {l:List (Int × Int)} {x:Int × Int} (hx:l[0]?=some x):zaP l 0=zbe x:=by
 unfold zaP
 rw [zb1 hx]
 by_cases h:zbe x≠0
 ·rw [if_pos h]
 ·rw [if_neg h,if_neg (fun e =>absurd e.1 (by omega))]
  exact (Decidable.not_not.1 h).symm
theorem zkS (l:List (Int × Int)) (hl:l.length≤1048576) (a:Option Addr) (c:Nat) (k:Nat) (hk:k < l.length) (W:World) (hv:RowC W W.heap.size a (zaQ l)) :
  Calls Tryz.prog 162 #[.slice a l.length c,.int .i64 k] W fun e w' =>e=.returned (.int .i64 (zaP l k))∧Below W.heap.size W w':=by
 obtain ⟨x,hx⟩:∃ x,l[k]?=some x:=⟨_,List.getElem?_eq_getElem hk⟩
 obtain ⟨g,o,rfl,hg,c0,c1⟩:=zqp hv hx
 have q0:=cell_regrown c0
 have q1:=cell_regrown c1
 have k1:(k:Int) < (l.length:Int):=by omega
 have k2:((k:Nat):Int).toNat=k:=by omega
 rcases k with _ | k
 ·have c0':W.cell? ⟨g,o,none⟩=some (.int .i32 x.1):=by simpa using c0
  have c1':W.cell? ⟨g,o+1,none⟩=some (.int .i32 x.2):=by simpa using c1
  have q0':=cell_regrown c0'
  have q1':=cell_regrown c1'
  clear hv hk k2
  cases r0:zan x.1 with
  | false =>
   have hm:zaP l 0=12:=by rw [zdH hx];unfold zbe za6;simp [r0]
   rw [hm]
   have HA:=kz (fun w =>by have:=zax x.1 w;rwa [r0] at this)
   clear hx hl
   clear hm
   go_enter Tryz.func162,Tryz.ntmps162
   go_wp2_with fail
   refine (oz HA _).mono ?_
   rintro e wx ⟨rfl,hw⟩
   rw [hw]
   clear hw wx
   go_wp2_with fail
   go_ret
   exact ⟨rfl,Below.refl _ _⟩
  | true =>
   cases r1:zan x.2 with
   | false =>
    have hm:zaP l 0=12:=by rw [zdH hx];unfold zbe za6;simp [r0,r1]
    rw [hm]
    have HA:=kz (fun w =>by have:=zax x.1 w;rwa [r0] at this)
    have HB:=kz (fun w =>by have:=zax x.2 w;rwa [r1] at this)
    clear hx hl
    clear hm
    go_enter Tryz.func162,Tryz.ntmps162
    go_wp2_with fail
    refine (oz HA _).mono ?_
    rintro e wx ⟨rfl,hw⟩
    rw [hw]
    clear hw wx
    go_wp2_with fail
    refine (oz HB _).mono ?_
    rintro e wx ⟨rfl,hw⟩
    rw [hw]
    clear hw wx
    go_wp2_with fail
    go_ret
    exact ⟨rfl,Below.refl _ _⟩
   | true =>
    have HA:=kz (fun w =>by have:=zax x.1 w;rwa [r0] at this)
    have HB:=kz (fun w =>by have:=zax x.2 w;rwa [r1] at this)
    by_cases h2:x.2 < x.1
    ·have hm:zaP l 0=11:=by rw [zdH hx];unfold zbe za6;simp [r0,r1,h2]
     rw [hm]
     clear hx hl
     clear hm
     go_enter Tryz.func162,Tryz.ntmps162
     go_wp2_with fail
     refine (oz HA _).mono ?_
     rintro e wx ⟨rfl,hw⟩
     rw [hw]
     clear hw wx
     go_wp2_with fail
     refine (oz HB _).mono ?_
     rintro e wx ⟨rfl,hw⟩
     rw [hw]
     clear hw wx
     go_wp2_with fail
     refine wp_region_quiet_below (by kernel_rfl) (by kernel_rfl) ?_
     repeat (go_big_quiet_step (fail))
     first | refine wpQuiet_nil ?_ | skip
     rintro w' ⟨p,rfl⟩
     have HBq:=kz (below_regrown W p.d p.os)
     generalize Go.Sort.grow (redrawn W p.d) p.os=w1 at *
     go_wp2_with fail
     go_ret
     exact ⟨rfl,oz HBq⟩
    ·have hm:zaP l 0=0:=by rw [zdH hx];unfold zbe za6;simp [r0,r1,h2]
     rw [hm]
     clear hx hl
     clear hm
     go_enter Tryz.func162,Tryz.ntmps162
     go_wp2_with fail
     refine (oz HA _).mono ?_
     rintro e wx ⟨rfl,hw⟩
     rw [hw]
     clear hw wx
     go_wp2_with fail
     refine (oz HB _).mono ?_
     rintro e wx ⟨rfl,hw⟩
     rw [hw]
     clear hw wx
     go_wp2_with fail
     refine wp_region_quiet_below (by kernel_rfl) (by kernel_rfl) ?_
     repeat (go_big_quiet_step (fail))
     first | refine wpQuiet_nil ?_ | skip
     rintro w' ⟨p,rfl⟩
     have HBq:=kz (below_regrown W p.d p.os)
     generalize Go.Sort.grow (redrawn W p.d) p.os=w1 at *
     clear q0 q1 q0' q1'
     go_wp2_with fail
     refine wp_region_quiet_below (by kernel_rfl) (by kernel_rfl) ?_
     repeat (go_big_quiet_step (fail))
     first | refine wpQuiet_nil ?_ | skip
     rintro w' ⟨p,rfl⟩
     have HBr:=kz (below_regrown w1 p.d p.os)
     generalize Go.Sort.grow (redrawn w1 p.d) p.os=w2 at *
     go_wp2_with fail
     go_ret
     exact ⟨rfl,(oz HBq).trans ((oz HBr).mono (oz HBq).size)⟩
 ·obtain ⟨y,hy⟩:∃ y,l[k]?=some y:=⟨_,List.getElem?_eq_getElem (by omega)⟩
  obtain ⟨g',o',e,_,d0,d1⟩:=zqp hv hy
  injection e with e
  injection e with e1 e2
  subst e1 e2
  have k3:(((k+1:Nat):Int) - 1)=(k:Int):=by omega
  have k4:(k:Int) < (l.length:Int):=by omega
  have k5:((k:Nat):Int).toNat=k:=by omega
  have k6:(0:Int) < ((k+1:Nat):Int):=by omega
  have k7:wrap64 (k:Int)=(k:Int):=by unfold wrap64;omega
  clear hv hk d0
  cases r0:zan x.1 with
  | false =>
   have hm:zaP l (k+1)=12:=by rw [zeV hx hy];unfold zbe za6;simp [r0]
   rw [hm]
   have HA:=kz (fun w =>by have:=zax x.1 w;rwa [r0] at this)
   clear hx hy hl
   clear hm
   go_enter Tryz.func162,Tryz.ntmps162
   go_wp2_with fail
   refine (oz HA _).mono ?_
   rintro e wx ⟨rfl,hw⟩
   rw [hw]
   clear hw wx
   go_wp2_with fail
   go_ret
   exact ⟨rfl,Below.refl _ _⟩
  | true =>
   cases r1:zan x.2 with
   | false =>
    have hm:zaP l (k+1)=12:=by rw [zeV hx hy];unfold zbe za6;simp [r0,r1]
    rw [hm]
    have HA:=kz (fun w =>by have:=zax x.1 w;rwa [r0] at this)
    have HB:=kz (fun w =>by have:=zax x.2 w;rwa [r1] at this)
    clear hx hy hl
    clear hm
    go_enter Tryz.func162,Tryz.ntmps162
    go_wp2_with fail
    refine (oz HA _).mono ?_
    rintro e wx ⟨rfl,hw⟩
    rw [hw]
    clear hw wx
    go_wp2_with fail
    refine (oz HB _).mono ?_
    rintro e wx ⟨rfl,hw⟩
    rw [hw]
    clear hw wx
    go_wp2_with fail
    go_ret
    exact ⟨rfl,Below.refl _ _⟩
   | true =>
    have HA:=kz (fun w =>by have:=zax x.1 w;rwa [r0] at this)
    have HB:=kz (fun w =>by have:=zax x.2 w;rwa [r1] at this)
    by_cases h2:x.2 < x.1
    ·have hm:zaP l (k+1)=11:=by rw [zeV hx hy];unfold zbe za6;simp [r0,r1,h2]
     rw [hm]
     clear hx hy hl
     clear hm
     go_enter Tryz.func162,Tryz.ntmps162
     go_wp2_with fail
     refine (oz HA _).mono ?_
     rintro e wx ⟨rfl,hw⟩
     rw [hw]
     clear hw wx
     go_wp2_with fail
     refine (oz HB _).mono ?_
     rintro e wx ⟨rfl,hw⟩
     rw [hw]
     clear hw wx
     go_wp2_with fail
     refine wp_region_quiet_below (by kernel_rfl) (by kernel_rfl) ?_
     repeat (go_big_quiet_step (fail))
     first | refine wpQuiet_nil ?_ | skip
     rintro w' ⟨p,rfl⟩
     have HBq:=kz (below_regrown W p.d p.os)
     generalize Go.Sort.grow (redrawn W p.d) p.os=w1 at *
     go_wp2_with fail
     go_ret
     exact ⟨rfl,oz HBq⟩
    ·by_cases h3:x.1≤y.2
     ·have hm:zaP l (k+1)=13:=by rw [zeV hx hy];unfold zbe za6;simp [r0,r1,h2,h3]
      rw [hm]
      clear hx hy hl
      clear hm
      go_enter Tryz.func162,Tryz.ntmps162
      go_wp2_with fail
      refine (oz HA _).mono ?_
      rintro e wx ⟨rfl,hw⟩
      rw [hw]
      clear hw wx
      go_wp2_with fail
      refine (oz HB _).mono ?_
      rintro e wx ⟨rfl,hw⟩
      rw [hw]
      clear hw wx
      go_wp2_with fail
      refine wp_region_quiet_below (by kernel_rfl) (by kernel_rfl) ?_
      repeat (go_big_quiet_step (fail))
      first | refine wpQuiet_nil ?_ | skip
      rintro w' ⟨p,rfl⟩
      have HBq:=kz (below_regrown W p.d p.os)
      generalize Go.Sort.grow (redrawn W p.d) p.os=w1 at *
      replace q0:=cell_regrown (zbi c0 (oz HBq) hg)
      have p1:=cell_regrown (zbi d1 (oz HBq) hg)
      go_wp2_with fail
      refine wp_region_quiet_below (by kernel_rfl) (by kernel_rfl) ?_
      repeat (go_big_quiet_step (fail))
      first | refine wpQuiet_nil ?_ | skip
      rintro w' ⟨p,rfl⟩
      have HBr:=kz (below_regrown w1 p.d p.os)
      generalize Go.Sort.grow (redrawn w1 p.d) p.os=w2 at *
      clear p1 q0 q1
      go_wp2_with fail
      go_ret
      exact ⟨rfl,(oz HBq).trans ((oz HBr).mono (oz HBq).size)⟩
     ·have hm:zaP l (k+1)=0:=by rw [zeV hx hy];unfold zbe za6;simp [r0,r1,h2,h3]
      rw [hm]
      clear hx hy hl
      clear hm
      go_enter Tryz.func162,Tryz.ntmps162
      go_wp2_with fail
      refine (oz HA _).mono ?_
      rintro e wx ⟨rfl,hw⟩
      rw [hw]
      clear hw wx
      go_wp2_with fail
      refine (oz HB _).mono ?_
      rintro e wx ⟨rfl,hw⟩
      rw [hw]
      clear hw wx
      go_wp2_with fail
      refine wp_region_quiet_below (by kernel_rfl) (by kernel_rfl) ?_
      repeat (go_big_quiet_step (fail))
      first | refine wpQuiet_nil ?_ | skip
      rintro w' ⟨p,rfl⟩
      have HBq:=kz (below_regrown W p.d p.os)
      generalize Go.Sort.grow (redrawn W p.d) p.os=w1 at *
      replace q0:=cell_regrown (zbi c0 (oz HBq) hg)
      have p1:=cell_regrown (zbi d1 (oz HBq) hg)
      go_wp2_with fail
      refine wp_region_quiet_below (by kernel_rfl) (by kernel_rfl) ?_
      repeat (go_big_quiet_step (fail))
      first | refine wpQuiet_nil ?_ | skip
      rintro w' ⟨p,rfl⟩
      have HBr:=kz (below_regrown w1 p.d p.os)
      generalize Go.Sort.grow (redrawn w1 p.d) p.os=w2 at *
      clear p1 q0 q1
      go_wp2_with fail
      go_ret
      exact ⟨rfl,(oz HBq).trans ((oz HBr).mono (oz HBq).size)⟩
structure RsX (W w:World):Prop where
 bl:Below W.heap.size W w
 rs:Blk w W.heap.size #[.int .i64 0,.int .i64 0,.int .i64 0] 76
theorem RsX.below {W w w':World} (h:RsX W w) (hb:Below w.heap.size w w'):RsX W w':=⟨h.bl.trans (hb.mono h.bl.size),h.rs.below hb h.rs.lt⟩
theorem RsX.start (W:World):RsX W (W.alloc (.cells #[.int .i64 0,.int .i64 0,.int .i64 0] 76)):=⟨(Below.refl _ W).alloc (Nat.le_refl _) _,Blk.new W _ _⟩
theorem zdL (list:Int) (l:List (Int × Int)) (hl:l.length≤1048576) (a:Option Addr) (c:Nat) (W:World) (hv:RowC W W.heap.size a (zaQ l)) :
  Calls Tryz.prog 84 #[.slice a l.length c,.int .i64 list] W fun e w' =>e=.returned (wrV (spW list l))∧Below W.heap.size W w':=by
 have HL:=kz hv
 have HX:=kz (RsX.start W)
 have HV:∃ mb,Hz (spW list l=mb):=⟨_,kz rfl⟩
 obtain ⟨mb,HV⟩:=HV
 rw [oz HV]
 clear hv
 go_enter Tryz.func84,Tryz.ntmps84
 go_wp2_with fail
 generalize W.alloc (.cells #[.int .i64 0,.int .i64 0,.int .i64 0] 76)=w0 at *
 go_loopw [5] (fun i wr => ∃ k:Nat,k≤l.length∧i=.int .i64 k∧Hz (OkR (zaP l) k)∧Hz (RsX W wr)) (fun i _ =>l.length - (intOf i).toNat)
 case atStart =>exact ⟨0,Nat.zero_le _,rfl,kz (OkR.zero _),HX⟩
 case round =>
  clear HX
  obtain ⟨k,hk,rfl,HN,HX⟩:=hrel
  by_cases hkn:k < l.length
  ·have k1:(k:Int) < (l.length:Int):=by omega
   have HC:=kz (zkS l hl a c k hkn wr ((oz HL).below (oz HX).bl (oz HX).bl.size))
   by_cases hb:zaP l k=0
   ·rw [hb] at HC
    have HN2:=kz ((oz HN).next hb)
    clear hb HN
    go_wp2_with fail
    refine (oz HC).mono ?_
    rintro e w2 ⟨rfl,hb⟩
    have HX2:=kz ((oz HX).below hb)
    clear hb HC HX
    go_wp2_with fail
    exact ⟨⟨k+1,by omega,by first | rfl | go_num,HN2,HX2⟩,by simp [intOf];omega⟩
   ·have hm:mb=(zaP l k,list,(k:Int)):=by
     rw [← oz HV]
     exact zba k hkn (oz HN) hb
    obtain ⟨y,hy⟩:∃ y,zaP l k=y:=⟨_,rfl⟩
    rw [hy] at HC hm hb
    subst hm
    have q0:(y == 0)=false:=by simpa using hb
    clear hy HV HN
    go_wp2_with fail
    refine (oz HC).mono ?_
    rintro e w2 ⟨rfl,hb2⟩
    have HX2:=kz ((oz HX).below hb2)
    clear hb2 HC HX
    have r0:=(oz HX2).rs.cell 0
    have f0:=(oz HX2).rs.frozen 0
    have r1:=(oz HX2).rs.cell 1
    have f1:=(oz HX2).rs.frozen 1
    have r2:=(oz HX2).rs.cell 2
    have f2:=(oz HX2).rs.frozen 2
    go_wp2_with fail
    exact bodyPost_ret (v:=wrV (y,list,(k:Int))) (zb8 Tryz.results84 rfl (zcf (oz HX2).rs _ _ _) rfl) rfl ⟨rfl,zaW (oz HX2).bl (Nat.le_refl _) (oz HX2).bl.size _ _ _⟩
  ·have k1:¬ (k:Int) < (l.length:Int):=by omega
   have hm:mb=(0,0,0):=by
    rw [← oz HV]
    exact zbE (fun i hi =>oz HN i (by omega))
   subst hm
   clear HV HN
   have r0:=(oz HX).rs.cell 0
   have f0:=(oz HX).rs.frozen 0
   have r1:=(oz HX).rs.cell 1
   have f1:=(oz HX).rs.frozen 1
   have r2:=(oz HX).rs.cell 2
   have f2:=(oz HX).rs.frozen 2
   go_wp2_with fail
   exact bodyPost_ret (v:=wrV (0,0,0)) (zb8 Tryz.results84 rfl (zcf (oz HX).rs _ _ _) rfl) rfl ⟨rfl,zaW (oz HX).bl (Nat.le_refl _) (oz HX).bl.size _ _ _⟩
def nmB (t:ByteArray) (j:Nat):Bool:=zbH (bt t j) || (decide (j≠0) && decide (bt t j=45∨(48≤bt t j∧bt t j≤57)))
theorem zmH (t:ByteArray):zdi t=(decide (1≤t.size∧t.size≤32) && (List.range t.size).all (nmB t)):=by
 unfold zdi
 by_cases h:1≤t.size∧t.size≤32
 ·rw [decide_eq_true h,Bool.true_and,Bool.true_and,Bool.eq_iff_iff,Bool.and_eq_true,List.all_eq_true,List.all_eq_true]
  constructor
  ·rintro ⟨h0,h1⟩ i hi
   unfold nmB
   by_cases hz:i=0
   ·rw [hz,h0];rfl
   ·have:=h1 i hi
    rw [decide_eq_true (show i≠0 from hz),Bool.true_and]
    exact this
  ·intro h1
   have h0:=h1 0 (List.mem_range.2 (by omega))
   unfold nmB at h0
   rw [decide_eq_false (by simp),Bool.false_and,Bool.or_false] at h0
   refine ⟨h0,fun i hi =>?_⟩
   have:=h1 i hi
   unfold nmB at this
   rw [Bool.or_eq_true] at this ⊢
   rcases this with e | e
   ·exact .inl e
   ·rw [Bool.and_eq_true] at e
    exact .inr e.2
 ·rw [decide_eq_false h,Bool.false_and,Bool.false_and]
theorem zkU (t:ByteArray) (ht:t.size≤maxLen) (W:World):Calls Tryz.prog 161 #[.string t] W fun e w' =>e=.returned (.bool (zdi t))∧w'=W:=by
 unfold maxLen at ht
 have HV:∃ mb,Hz ((decide (1≤t.size∧t.size≤32) && (List.range t.size).all (nmB t))=mb):=⟨_,kz rfl⟩
 obtain ⟨mb,HV⟩:=HV
 rw [zmH,oz HV]
 go_enter Tryz.func161,Tryz.ntmps161
 go_wp2_with fail
 go_loopw [3] (fun i wr => ∃ k:Nat,k≤t.size∧i=.int .i64 k∧Hz (∀ j,j < k→nmB t j=true)∧wr=W) (fun i _ =>t.size - (intOf i).toNat)
 case atStart =>exact ⟨0,Nat.zero_le _,rfl,kz (fun j h =>absurd h (by omega)),rfl⟩
 case round =>
  obtain ⟨k,hk,rfl,HN,rfl⟩:=hrel
  by_cases hkn:k < t.size
  ·have hgk:=zcd t k hkn
   obtain ⟨c,ec⟩:∃ c,(t[k]'hkn).toNat=c:=⟨_,rfl⟩
   rw [ec] at hgk
   have k1:(k:Int) < (t.size:Int):=by omega
   have k2:((k:Nat):Int).toNat=k:=by omega
   have HG:=kz hgk
   clear hgk
   by_cases b1:97≤c
   ·have i1:decide ((97:Int)≤(c:Int))=true:=decide_eq_true (by omega)
    have j1:(97:Int)≤(c:Int):=by omega
    by_cases b2:c≤122
    ·have i2:decide ((c:Int)≤122)=true:=decide_eq_true (by omega)
     have j2:(c:Int)≤122:=by omega
     have hn:nmB t k=true:=by unfold nmB zbH;rw [oz HG];simp <;> omega
     have HN2:Hz (∀ j,j < k+1→nmB t j=true):=kz (fun j hj =>by
      by_cases e:j=k
      ·rw [e];exact hn
      ·exact oz HN j (by omega))
     clear hn HN HG
     go_wp2_with fail
     all_goals exact ⟨⟨k+1,by omega,by first | rfl | go_num,HN2,by first | trivial | rfl⟩,by simp [intOf];omega⟩
    ·have i2:decide ((c:Int)≤122)=false:=decide_eq_false (by omega)
     have j2:¬ (c:Int)≤122:=by omega
     by_cases z:k=0
     ·subst z
      have k3:((0:Nat):Int)=0:=rfl
      have hn:nmB t 0=false:=by unfold nmB zbH;rw [oz HG];simp <;> omega
      have hm:mb=false:=by
       rw [← oz HV,show (List.range t.size).all (nmB t)=false from by
        rw [List.all_eq_false]
        exact ⟨0,List.mem_range.2 hkn,by rw [hn];decide⟩,Bool.and_false]
      subst hm
      clear hn HN HV HG
      go_wp2_with fail
      all_goals (go_ret;exact ⟨rfl,rfl⟩)
     ·have z1:¬ (k:Int)=0:=by omega
      have z2:((k:Int) == 0)=false:=by simpa using z
      by_cases b3:c=45
      ·have i3:((c:Int) == 45)=true:=by rw [b3];rfl
       have hn:nmB t k=true:=by unfold nmB zbH;rw [oz HG];simp <;> omega
       have HN2:Hz (∀ j,j < k+1→nmB t j=true):=kz (fun j hj =>by
        by_cases e:j=k
        ·rw [e];exact hn
        ·exact oz HN j (by omega))
       clear hn HN HG
       go_wp2_with fail
       all_goals exact ⟨⟨k+1,by omega,by first | rfl | go_num,HN2,by first | trivial | rfl⟩,by simp [intOf];omega⟩
      ·have i3:((c:Int) == 45)=false:=beq_eq_false_iff_ne.2 (by omega)
       by_cases b4:c < 48
       ·have i4:decide ((c:Int) < 48)=true:=decide_eq_true (by omega)
        have j4:(c:Int) < 48:=by omega
        have hn:nmB t k=false:=by unfold nmB zbH;rw [oz HG];simp <;> omega
        have hm:mb=false:=by
         rw [← oz HV,show (List.range t.size).all (nmB t)=false from by
          rw [List.all_eq_false]
          exact ⟨k,List.mem_range.2 hkn,by rw [hn];decide⟩,Bool.and_false]
        subst hm
        clear hn HN HV HG
        go_wp2_with fail
        all_goals (go_ret;exact ⟨rfl,rfl⟩)
       ·have i4:decide ((c:Int) < 48)=false:=decide_eq_false (by omega)
        have j4:¬ (c:Int) < 48:=by omega
        by_cases b5:57 < c
        ·have i5:decide ((57:Int) < (c:Int))=true:=decide_eq_true (by omega)
         have j5:(57:Int) < (c:Int):=by omega
         have hn:nmB t k=false:=by unfold nmB zbH;rw [oz HG];simp <;> omega
         have hm:mb=false:=by
          rw [← oz HV,show (List.range t.size).all (nmB t)=false from by
           rw [List.all_eq_false]
           exact ⟨k,List.mem_range.2 hkn,by rw [hn];decide⟩,Bool.and_false]
         subst hm
         clear hn HN HV HG
         go_wp2_with fail
         all_goals (go_ret;exact ⟨rfl,rfl⟩)
        ·have i5:decide ((57:Int) < (c:Int))=false:=decide_eq_false (by omega)
         have j5:¬ (57:Int) < (c:Int):=by omega
         have hn:nmB t k=true:=by unfold nmB zbH;rw [oz HG];simp <;> omega
         have HN2:Hz (∀ j,j < k+1→nmB t j=true):=kz (fun j hj =>by
          by_cases e:j=k
          ·rw [e];exact hn
          ·exact oz HN j (by omega))
         clear hn HN HG
         go_wp2_with fail
         all_goals exact ⟨⟨k+1,by omega,by first | rfl | go_num,HN2,by first | trivial | rfl⟩,by simp [intOf];omega⟩
   ·have i1:decide ((97:Int)≤(c:Int))=false:=decide_eq_false (by omega)
    have j1:¬ (97:Int)≤(c:Int):=by omega
    by_cases z:k=0
    ·subst z
     have k3:((0:Nat):Int)=0:=rfl
     have hn:nmB t 0=false:=by unfold nmB zbH;rw [oz HG];simp <;> omega
     have hm:mb=false:=by
      rw [← oz HV,show (List.range t.size).all (nmB t)=false from by
       rw [List.all_eq_false]
       exact ⟨0,List.mem_range.2 hkn,by rw [hn];decide⟩,Bool.and_false]
     subst hm
     clear hn HN HV HG
     go_wp2_with fail
     all_goals (go_ret;exact ⟨rfl,rfl⟩)
    ·have z1:¬ (k:Int)=0:=by omega
     have z2:((k:Int) == 0)=false:=by simpa using z
     by_cases b3:c=45
     ·have i3:((c:Int) == 45)=true:=by rw [b3];rfl
      have hn:nmB t k=true:=by unfold nmB zbH;rw [oz HG];simp <;> omega
      have HN2:Hz (∀ j,j < k+1→nmB t j=true):=kz (fun j hj =>by
       by_cases e:j=k
       ·rw [e];exact hn
       ·exact oz HN j (by omega))
      clear hn HN HG
      go_wp2_with fail
      all_goals exact ⟨⟨k+1,by omega,by first | rfl | go_num,HN2,by first | trivial | rfl⟩,by simp [intOf];omega⟩
     ·have i3:((c:Int) == 45)=false:=beq_eq_false_iff_ne.2 (by omega)
      by_cases b4:c < 48
      ·have i4:decide ((c:Int) < 48)=true:=decide_eq_true (by omega)
       have j4:(c:Int) < 48:=by omega
       have hn:nmB t k=false:=by unfold nmB zbH;rw [oz HG];simp <;> omega
       have hm:mb=false:=by
        rw [← oz HV,show (List.range t.size).all (nmB t)=false from by
         rw [List.all_eq_false]
         exact ⟨k,List.mem_range.2 hkn,by rw [hn];decide⟩,Bool.and_false]
       subst hm
       clear hn HN HV HG
       go_wp2_with fail
       all_goals (go_ret;exact ⟨rfl,rfl⟩)
      ·have i4:decide ((c:Int) < 48)=false:=decide_eq_false (by omega)
       have j4:¬ (c:Int) < 48:=by omega
       by_cases b5:57 < c
       ·have i5:decide ((57:Int) < (c:Int))=true:=decide_eq_true (by omega)
        have j5:(57:Int) < (c:Int):=by omega
        have hn:nmB t k=false:=by unfold nmB zbH;rw [oz HG];simp <;> omega
        have hm:mb=false:=by
         rw [← oz HV,show (List.range t.size).all (nmB t)=false from by
          rw [List.all_eq_false]
          exact ⟨k,List.mem_range.2 hkn,by rw [hn];decide⟩,Bool.and_false]
        subst hm
        clear hn HN HV HG
        go_wp2_with fail
        all_goals (go_ret;exact ⟨rfl,rfl⟩)
       ·have i5:decide ((57:Int) < (c:Int))=false:=decide_eq_false (by omega)
        have j5:¬ (57:Int) < (c:Int):=by omega
        have hn:nmB t k=true:=by unfold nmB zbH;rw [oz HG];simp <;> omega
        have HN2:Hz (∀ j,j < k+1→nmB t j=true):=kz (fun j hj =>by
         by_cases e:j=k
         ·rw [e];exact hn
         ·exact oz HN j (by omega))
        clear hn HN HG
        go_wp2_with fail
        all_goals exact ⟨⟨k+1,by omega,by first | rfl | go_num,HN2,by first | trivial | rfl⟩,by simp [intOf];omega⟩
  ·have k1:¬ (k:Int) < (t.size:Int):=by omega
   have HA:Hz ((List.range t.size).all (nmB t)=true):=kz (List.all_eq_true.2 (fun i hi =>oz HN i (by have:=List.mem_range.1 hi;omega)))
   clear HN
   by_cases h1:1≤t.size
   ·have h1':(1:Int)≤(t.size:Int):=by omega
    by_cases h2:t.size≤32
    ·have h2':(t.size:Int)≤32:=by omega
     have hm:mb=true:=by rw [← oz HV,oz HA,decide_eq_true ⟨h1,h2⟩];rfl
     subst hm
     clear HV HA
     go_wp2_with fail
     go_ret
     exact ⟨rfl,rfl⟩
    ·have h2':¬ (t.size:Int)≤32:=by omega
     have hm:mb=false:=by rw [← oz HV,decide_eq_false (fun e =>h2 e.2)];rfl
     subst hm
     clear HV HA
     go_wp2_with fail
     go_ret
     exact ⟨rfl,rfl⟩
   ·have h1':¬ (1:Int)≤(t.size:Int):=by omega
    have hm:mb=false:=by rw [← oz HV,decide_eq_false (fun e =>h1 e.1)];rfl
    subst hm
    clear HV HA
    go_wp2_with fail
    go_ret
    exact ⟨rfl,rfl⟩
theorem ziG (s:ByteArray) (hs:s.size≤maxLen) (l:List (Int × Int)) (hl:l.length≤1048576) (p:Option Addr) (d:Nat) (W:World) (hv:RowC W W.heap.size p (zaQ l)) :
  Calls Tryz.prog 83 #[.agg #[.string s,.slice p l.length d]] W fun e w' =>e=.returned (.int .i64 (scF (s,l)))∧Below W.heap.size W w':=by
 have hB0:Below W.heap.size W (W.alloc (.cells #[.string s,.slice p l.length d] 109)):=(Below.refl _ W).alloc (Nat.le_refl _) _
 have bA:=Blk.new W #[.string s,.slice p l.length d] 109
 have HL:=kz (hv.below hB0 hB0.size)
 have HB:=kz hB0
 have q0:=bA.cell 0
 have q1:=bA.cell 1
 have HA:=kz (fun w =>zkU s hs w)
 have HF:Hz (scF (s,l)=if zdi s then (spW 1 l).1 else 38):=kz rfl
 clear hv hB0 bA
 cases hn:zdi s with
 | false =>
  rw [hn] at HA HF
  rw [oz HF]
  simp only [Bool.false_eq_true,if_false]
  go_enter Tryz.func83,Tryz.ntmps83
  go_wp2_with fail
  generalize W.alloc (.cells #[.string s,.slice p l.length d] 109)=w0 at *
  refine (oz HA _).mono ?_
  rintro e wx ⟨rfl,hw⟩
  rw [hw]
  clear hw wx
  go_wp2_with fail
  go_ret
  exact ⟨rfl,oz HB⟩
 | true =>
  rw [hn] at HA HF
  rw [oz HF]
  simp only [if_true]
  have HC:=kz (zdL 1 l hl p d _ (oz HL))
  generalize spW 1 l=x at *
  obtain ⟨x0,x1,x2⟩:=x
  go_enter Tryz.func83,Tryz.ntmps83
  go_wp2_with fail
  generalize W.alloc (.cells #[.string s,.slice p l.length d] 109)=w0 at *
  refine (oz HA _).mono ?_
  rintro e wx ⟨rfl,hw⟩
  rw [hw]
  clear hw wx
  go_wp2_with fail
  refine (oz HC).mono ?_
  rintro e w1 ⟨rfl,hb⟩
  have HB1:=kz ((oz HB).trans (hb.mono (oz HB).size))
  clear hb HC q0 q1
  unfold wrV
  have HB2:=kz ((oz HB1).alloc (oz HB1).size (.cells #[.int .i64 x0,.int .i64 x1,.int .i64 x2] 76))
  have z0:=(Blk.new w1 #[.int .i64 x0,.int .i64 x1,.int .i64 x2] 76).cell 0
  go_wp2_with fail
  go_ret
  exact ⟨rfl,oz HB2⟩
theorem zoM {x:Int × ByteArray} (h:zan x.1=false):mpF x=12:=by unfold mpF;rw [h];rfl
theorem zmI {x:Int × ByteArray} (h:zan x.1=true) (h2:toB x.2=false):mpF x=35:=by unfold mpF;rw [h,h2];rfl
theorem zqK {x:Int × ByteArray} (h:zan x.1=true) (h2:toB x.2=true):mpF x=0:=by unfold mpF;rw [h,h2];rfl
def RnR (w:World) (p:Option Addr) (zs:List Int):Prop := ∀ (k:Nat) (y:Int),zs[k]?=some y→∃ g,p=some ⟨g,0,none⟩∧g < w.heap.size∧w.cell? ⟨g,k,none⟩=some (.int .i32 y)
theorem RnR.below {w w':World} {p:Option Addr} {zs:List Int} (h:RnR w p zs) (hb:Below w.heap.size w w'):RnR w' p zs:=fun k y e =>by
 obtain ⟨g,e1,e2,e3⟩:=h k y e
 exact ⟨g,e1,Nat.lt_of_lt_of_le e2 hb.size,zbi e3 hb e2⟩
theorem zfq {w:World} {lo:Nat} {v:Value} {zs:List Int} (h:w.ownsRow lo 21 1 v zs.length (znk zs)):∃ p c,v=.slice p zs.length c∧RnR w p zs:=by
 rcases h.2 with ⟨e,h0⟩ | ⟨g,cap,cur,e,hb,hg,hc,hm,hcs,hx⟩
 ·exact ⟨none,0,by rw [e,h0],fun k y hk =>by have:=(List.getElem?_eq_some_iff.1 hk).1;omega⟩
 ·have b:Blk w g cur 21:=hg
  refine ⟨some ⟨g,0,none⟩,cap,e,fun k y hk =>⟨g,rfl,b.lt, ?_⟩⟩
  have hk':=(List.getElem?_eq_some_iff.1 hk).1
  have e1:(cur.toList.take (zs.length*1))[k]?=(znk zs)[k]?:=by rw [hx]
  rw [List.getElem?_take_of_lt (by omega),Array.getElem?_toList] at e1
  rw [b.cell k,e1]
  unfold znk
  rw [List.getElem?_map,hk]
  rfl
theorem zhf (list:Int) (l:List (Int × ByteArray)) (hl:l.length≤1048576) (hz:∀ x ∈ l,x.2.size≤1048576) (a:Option Addr) (c:Nat) (W:World) (hv:RowC W W.heap.size a (zbl l)) :
  Calls Tryz.prog 85 #[.slice a l.length c,.int .i64 list] W fun e w' =>e=.returned (wrV (zaf list l mp0 mpF))∧Below W.heap.size W w':=by
 have HL:=kz hv
 have HZ:=kz hz
 have HX:=kz (RsX.start W)
 have HV:∃ mb,Hz (zaf list l mp0 mpF=mb):=⟨_,kz rfl⟩
 obtain ⟨mb,HV⟩:=HV
 rw [oz HV]
 clear hv hz
 go_enter Tryz.func85,Tryz.ntmps85
 go_wp2_with fail
 generalize W.alloc (.cells #[.int .i64 0,.int .i64 0,.int .i64 0] 76)=w0 at *
 go_loopw [5] (fun i wr => ∃ k:Nat,k≤l.length∧i=.int .i64 k∧Hz (OkTo l mp0 mpF k)∧Hz (RsX W wr)) (fun i _ =>l.length - (intOf i).toNat)
 case atStart =>exact ⟨0,Nat.zero_le _,rfl,kz (OkTo.zero _ _ _),HX⟩
 case round =>
  clear HX
  obtain ⟨k,hk,rfl,HO,HX⟩:=hrel
  by_cases hkn:k < l.length
  ·obtain ⟨x,hx⟩:∃ x,l[k]?=some x:=⟨_,List.getElem?_eq_getElem hkn⟩
   obtain ⟨g,o,ea,hg,c0,c1⟩:=zlH ((oz HL).below (oz HX).bl (oz HX).bl.size) hx
   have HK:=kz hx
   have k1:(k:Int) < (l.length:Int):=by omega
   have k2:((k:Nat):Int).toNat=k:=by omega
   have HA:=kz (fun w =>zax x.1 w)
   subst ea
   clear hg hx
   cases r0:zan x.1 with
   | false =>
    have hf:=zoM r0
    have hm:mb=(12,list,(k:Int)):=by rw [← oz HV,(oz HO).bad (oz HK) list (by rw [hf];decide),hf]
    subst hm
    clear hf HV HO HK
    rw [r0] at HA
    have r0:=(oz HX).rs.cell 0
    have f0:=(oz HX).rs.frozen 0
    have r1:=(oz HX).rs.cell 1
    have f1:=(oz HX).rs.frozen 1
    have r2:=(oz HX).rs.cell 2
    have f2:=(oz HX).rs.frozen 2
    go_wp2_with fail
    refine (oz HA _).mono ?_
    rintro e wx ⟨rfl,hw⟩
    rw [hw]
    clear hw wx
    go_wp2_with fail
    exact bodyPost_ret (v:=wrV (12,list,(k:Int))) (zb8 Tryz.results85 rfl (zcf (oz HX).rs _ _ _) rfl) rfl ⟨rfl,zaW (oz HX).bl (Nat.le_refl _) (oz HX).bl.size _ _ _⟩
   | true =>
    rw [r0] at HA
    cases r1:okU x.2 with
    | false =>
     have hf:mpF x=35:=zmI r0 (by unfold toB;rw [r1];rfl)
     have hm:mb=(35,list,(k:Int)):=by rw [← oz HV,(oz HO).bad (oz HK) list (by rw [hf];decide),hf]
     subst hm
     clear hf HV HO
     have HRU:=kz (zck x.2 (oz HZ x (List.mem_of_getElem? (oz HK))) wr)
     go_wp2_with fail
     refine (oz HA _).mono ?_
     rintro e wx ⟨rfl,hw⟩
     rw [hw]
     clear hw wx
     go_wp2_with fail
     refine (oz HRU).mono ?_
     rintro e w2 ⟨hyes,hno,hb⟩
     have HX2:=kz ((oz HX).below hb)
     obtain rfl:=hno r1
     clear hyes hno hb HRU HX HK
     have r0:=(oz HX2).rs.cell 0
     have f0:=(oz HX2).rs.frozen 0
     have r1:=(oz HX2).rs.cell 1
     have f1:=(oz HX2).rs.frozen 1
     have r2:=(oz HX2).rs.cell 2
     have f2:=(oz HX2).rs.frozen 2
     go_wp2_with fail
     exact bodyPost_ret (v:=wrV (35,list,(k:Int))) (zb8 Tryz.results85 rfl (zcf (oz HX2).rs _ _ _) rfl) rfl ⟨rfl,zaW (oz HX2).bl (Nat.le_refl _) (oz HX2).bl.size _ _ _⟩
    | true =>
     by_cases r2:(zak x.2).length < 1
     ·have r2':(((zak x.2).length:Nat):Int) < 1:=by omega
      have hf:mpF x=35:=zmI r0 (by unfold toB;rw [r1,decide_eq_false (by omega)];rfl)
      have hm:mb=(35,list,(k:Int)):=by rw [← oz HV,(oz HO).bad (oz HK) list (by rw [hf];decide),hf]
      subst hm
      clear hf HV HO
      have HRU:=kz (zck x.2 (oz HZ x (List.mem_of_getElem? (oz HK))) wr)
      go_wp2_with fail
      refine (oz HA _).mono ?_
      rintro e wx ⟨rfl,hw⟩
      rw [hw]
      clear hw wx
      go_wp2_with fail
      refine (oz HRU).mono ?_
      rintro e w2 ⟨hyes,hno,hb⟩
      have HX2:=kz ((oz HX).below hb)
      obtain ⟨v,rfl,ho⟩:=hyes r1
      obtain ⟨p,c2,rfl,hR⟩:=zfq ho
      clear hyes hno hb HRU HX HK ho hR r1
      generalize (zak x.2).length=n at *
      have r0:=(oz HX2).rs.cell 0
      have f0:=(oz HX2).rs.frozen 0
      have r1:=(oz HX2).rs.cell 1
      have f1:=(oz HX2).rs.frozen 1
      have r2:=(oz HX2).rs.cell 2
      have f2:=(oz HX2).rs.frozen 2
      go_wp2_with fail
      exact bodyPost_ret (v:=wrV (35,list,(k:Int))) (zb8 Tryz.results85 rfl (zcf (oz HX2).rs _ _ _) rfl) rfl ⟨rfl,zaW (oz HX2).bl (Nat.le_refl _) (oz HX2).bl.size _ _ _⟩
     ·by_cases r3:4 < (zak x.2).length
      ·have r2':¬ (((zak x.2).length:Nat):Int) < 1:=by omega
       have r3':(4:Int) < (((zak x.2).length:Nat):Int):=by omega
       have hf:mpF x=35:=zmI r0 (by unfold toB;rw [r1,decide_eq_false (by omega)];rfl)
       have hm:mb=(35,list,(k:Int)):=by rw [← oz HV,(oz HO).bad (oz HK) list (by rw [hf];decide),hf]
       subst hm
       clear hf HV HO
       have HRU:=kz (zck x.2 (oz HZ x (List.mem_of_getElem? (oz HK))) wr)
       go_wp2_with fail
       refine (oz HA _).mono ?_
       rintro e wx ⟨rfl,hw⟩
       rw [hw]
       clear hw wx
       go_wp2_with fail
       refine (oz HRU).mono ?_
       rintro e w2 ⟨hyes,hno,hb⟩
       have HX2:=kz ((oz HX).below hb)
       obtain ⟨v,rfl,ho⟩:=hyes r1
       obtain ⟨p,c2,rfl,hR⟩:=zfq ho
       clear hyes hno hb HRU HX HK ho hR r1
       generalize (zak x.2).length=n at *
       have r0:=(oz HX2).rs.cell 0
       have f0:=(oz HX2).rs.frozen 0
       have r1:=(oz HX2).rs.cell 1
       have f1:=(oz HX2).rs.frozen 1
       have r2:=(oz HX2).rs.cell 2
       have f2:=(oz HX2).rs.frozen 2
       go_wp2_with fail
       exact bodyPost_ret (v:=wrV (35,list,(k:Int))) (zb8 Tryz.results85 rfl (zcf (oz HX2).rs _ _ _) rfl) rfl ⟨rfl,zaW (oz HX2).bl (Nat.le_refl _) (oz HX2).bl.size _ _ _⟩
      ·have r2':¬ (((zak x.2).length:Nat):Int) < 1:=by omega
       have r3':¬ (4:Int) < (((zak x.2).length:Nat):Int):=by omega
       have hf:mpF x=0:=zqK r0 (by unfold toB;rw [r1,decide_eq_true (by omega)];rfl)
       have HO2:=kz ((oz HO).next (oz HK) hf)
       clear hf HO
       have HRU:=kz (zck x.2 (oz HZ x (List.mem_of_getElem? (oz HK))) wr)
       go_wp2_with fail
       refine (oz HA _).mono ?_
       rintro e wx ⟨rfl,hw⟩
       rw [hw]
       clear hw wx
       go_wp2_with fail
       refine (oz HRU).mono ?_
       rintro e w2 ⟨hyes,hno,hb⟩
       have HX2:=kz ((oz HX).below hb)
       obtain ⟨v,rfl,ho⟩:=hyes r1
       obtain ⟨p,c2,rfl,hR⟩:=zfq ho
       clear hyes hno hb HRU HX HK ho hR r1
       generalize (zak x.2).length=n at *
       go_wp2_with fail
       exact ⟨⟨k+1,by omega,by first | rfl | go_num,HO2,HX2⟩,by simp [intOf];omega⟩
  ·have k1:¬ (k:Int) < (l.length:Int):=by omega
   have hm:mb=(0,0,0):=by rw [← oz HV];exact (oz HO).ok (by omega) list
   subst hm
   clear HV HO
   have r0:=(oz HX).rs.cell 0
   have f0:=(oz HX).rs.frozen 0
   have r1:=(oz HX).rs.cell 1
   have f1:=(oz HX).rs.frozen 1
   have r2:=(oz HX).rs.cell 2
   have f2:=(oz HX).rs.frozen 2
   go_wp2_with fail
   exact bodyPost_ret (v:=wrV (0,0,0)) (zb8 Tryz.results85 rfl (zcf (oz HX).rs _ _ _) rfl) rfl ⟨rfl,zaW (oz HX).bl (Nat.le_refl _) (oz HX).bl.size _ _ _⟩
theorem zbO (r:Int) (W:World):Calls Tryz.prog 163 #[.int .i32 r] W fun e w' =>e=.returned (.bool (zfO r))∧w'=W:=by
 by_cases h0:r < 128
 ·have hv:zfO r=true:=decide_eq_true (Or.inl h0)
  rw [hv]
  clear hv
  go_enter Tryz.func163,Tryz.ntmps163
  go_wp2_with fail
  go_ret
  exact ⟨rfl,rfl⟩
 ·by_cases h1:r=65533
  ·subst h1
   have hv:zfO 65533=true:=by decide
   rw [hv]
   clear hv h0
   go_enter Tryz.func163,Tryz.ntmps163
   go_wp2_with fail
   go_ret
   exact ⟨rfl,rfl⟩
  ·have e1:(r == 65533)=false:=by simpa using h1
   have hv:zfO r=false:=decide_eq_false (by omega)
   rw [hv]
   clear hv
   go_enter Tryz.func163,Tryz.ntmps163
   go_wp2_with fail
   go_ret
   exact ⟨rfl,rfl⟩
theorem zeS (r:Int) (W:World):Calls Tryz.prog 165 #[.int .i32 r] W fun e w' =>e=.returned (.bool (ziv r))∧w'=W:=by
 by_cases h0:r < 32
 ·have hv:ziv r=true:=decide_eq_true (Or.inl h0)
  rw [hv]
  clear hv
  go_enter Tryz.func165,Tryz.ntmps165
  go_wp2_with fail
  go_ret
  exact ⟨rfl,rfl⟩
 ·by_cases h1:r=45
  ·subst h1
   have hv:ziv 45=true:=by decide
   rw [hv]
   clear hv h0
   go_enter Tryz.func165,Tryz.ntmps165
   go_wp2_with fail
   go_ret
   exact ⟨rfl,rfl⟩
  ·have e1:(r == 45)=false:=by simpa using h1
   by_cases h2:r=46
   ·subst h2
    have hv:ziv 46=true:=by decide
    rw [hv]
    clear hv h0 e1
    go_enter Tryz.func165,Tryz.ntmps165
    go_wp2_with fail
    go_ret
    exact ⟨rfl,rfl⟩
   ·have e2:(r == 46)=false:=by simpa using h2
    by_cases h3:r=65533
    ·subst h3
     have hv:ziv 65533=true:=by decide
     rw [hv]
     clear hv h0 e1 e2
     go_enter Tryz.func165,Tryz.ntmps165
     go_wp2_with fail
     go_ret
     exact ⟨rfl,rfl⟩
    ·have e3:(r == 65533)=false:=by simpa using h3
     have hv:ziv r=false:=decide_eq_false (by omega)
     rw [hv]
     clear hv
     go_enter Tryz.func165,Tryz.ntmps165
     go_wp2_with fail
     go_ret
     exact ⟨rfl,rfl⟩
theorem zcO (s:ByteArray) (hs:s.size≤1048576) (hok:okU s=true) (W:World):Calls Tryz.prog 164 #[.string s] W fun e w' =>e=.returned (.bool (zeC s))∧Below W.heap.size W w':=by
 have HRU:=kz (zck s hs W)
 have HOK:=kz hok
 have HLN:Hz ((zak s).length≤1048576):=kz (by rw [zbD];have:=zap s;omega)
 have HV:∃ mb,Hz ((zak s).any ziv=mb):=⟨_,kz rfl⟩
 obtain ⟨mb,HV⟩:=HV
 rw [show zeC s=mb from oz HV]
 clear hok hs
 go_enter Tryz.func164,Tryz.ntmps164
 go_wp2_with fail
 refine (oz HRU).mono ?_
 rintro e w0 ⟨hyes,_,hb⟩
 obtain ⟨v,rfl,ho⟩:=hyes (oz HOK)
 obtain ⟨p,c,rfl,hR⟩:=zfq ho
 have HR:=kz hR
 have HB:=kz hb
 clear hyes hb HRU HOK ho hR
 generalize zak s=l at *
 have hln:=oz HLN
 clear HLN
 go_wp2_with fail
 go_loopw [5] (fun i wr => ∃ k:Nat,k≤l.length∧i=.int .i64 k∧Hz (NoneB l ziv k)∧wr=w0) (fun i _ =>l.length - (intOf i).toNat)
 case atStart =>exact ⟨0,Nat.zero_le _,rfl,kz (NoneB.zero _ _),rfl⟩
 case round =>
  obtain ⟨k,hk,rfl,HN,rfl⟩:=hrel
  by_cases hkn:k < l.length
  ·obtain ⟨y,hy⟩:∃ y,l[k]?=some y:=⟨_,List.getElem?_eq_getElem hkn⟩
   obtain ⟨g,rfl,hg,c0⟩:=oz HR k y hy
   have HK:=kz hy
   have k1:(k:Int) < (l.length:Int):=by omega
   have k2:((k:Nat):Int).toNat=k:=by omega
   have HA:=kz (fun w =>zeS y w)
   clear hg hy
   cases hc:ziv y with
   | true =>
    rw [hc] at HA
    have hm:mb=true:=by rw [← oz HV];exact zdV (oz HK) hc
    subst hm
    clear HV HK HN hc
    go_wp2_with fail
    refine (oz HA _).mono ?_
    rintro e wx ⟨rfl,hw⟩
    rw [hw]
    clear hw wx
    go_wp2_with fail
    go_ret
    exact ⟨rfl,oz HB⟩
   | false =>
    rw [hc] at HA
    have HN2:=kz ((oz HN).next (oz HK) hc)
    clear HK HN hc
    go_wp2_with fail
    refine (oz HA _).mono ?_
    rintro e wx ⟨rfl,hw⟩
    rw [hw]
    clear hw wx
    go_wp2_with fail
    exact ⟨⟨k+1,by omega,by first | rfl | go_num,HN2,by first | trivial | rfl⟩,by simp [intOf];omega⟩
  ·have k1:¬ (k:Int) < (l.length:Int):=by omega
   have hm:mb=false:=by rw [← oz HV];exact (oz HN).any (by omega)
   subst hm
   clear HV HN
   go_wp2_with fail
   go_ret
   exact ⟨rfl,oz HB⟩
theorem zgo (T:TV) (hT:TabB T) (v:Value) (r:Int) (W:World) (hv:TbV W T v) :
  Calls Tryz.prog 91 #[v,.int .i32 r] W fun e w' =>e=.returned (.bool (zaN T r))∧Below W.heap.size W w':=by
 obtain ⟨A,rfl,hA⟩:=hv
 have HX:=kz (TbX.start hA)
 have z0:=(oz HX).z0
 have z1:=(oz HX).z1
 have z2:=(oz HX).z2
 have z3:=(oz HX).z3
 have z4:=(oz HX).z4
 have z5:=(oz HX).z5
 have z6:=(oz HX).z6
 have z7:=(oz HX).z7
 have HR:=kz (zax r)
 have HM:=kz (fun w (hv:TbV w T (.agg #[.slice A.a0 T.sc.length A.c0,.slice A.a1 T.co.length A.c1,.slice A.a2 T.ma.length A.c2,.slice A.a3 T.pr.length A.c3,.slice A.a4 T.fo.length A.c4,.slice A.a5 T.lk.length A.c5,.slice A.a6 T.dr.length A.c6,.slice A.a7 T.al.length A.c7])) =>zes T hT.n2 _ r w hv)
 have HW:=kz (fun w (hv:TbV w T (.agg #[.slice A.a0 T.sc.length A.c0,.slice A.a1 T.co.length A.c1,.slice A.a2 T.ma.length A.c2,.slice A.a3 T.pr.length A.c3,.slice A.a4 T.fo.length A.c4,.slice A.a5 T.lk.length A.c5,.slice A.a6 T.dr.length A.c6,.slice A.a7 T.al.length A.c7])) =>zdK T hT.n3 _ r w hv)
 have HO:=kz (fun a c w (hv:RowC w w.heap.size a (zaQ T.dr)) =>zbk T.dr hT.n6 a c r w hv)
 have HF:=kz (fun a c w (hv:RowC w w.heap.size a (zbl T.fo)) =>zb2 T.fo hT.n4 a c r w hv)
 have HP:∃ pb,Hz (zaN T r=pb):=⟨_,kz rfl⟩
 obtain ⟨pb,HP⟩:=HP
 rw [oz HP]
 clear hA hT
 cases r0:zan r with
 | false =>
  obtain rfl:pb=false:=by rw [← oz HP];unfold zaN;rw [r0];rfl
  rw [r0] at HR
  clear HP r0
  go_enter Tryz.func91,Tryz.ntmps91
  go_wp2_with fail
  generalize W.alloc (.cells #[.slice A.a0 T.sc.length A.c0,.slice A.a1 T.co.length A.c1,.slice A.a2 T.ma.length A.c2,.slice A.a3 T.pr.length A.c3,.slice A.a4 T.fo.length A.c4,.slice A.a5 T.lk.length A.c5,.slice A.a6 T.dr.length A.c6,.slice A.a7 T.al.length A.c7] 28)=w0 at *
  refine (oz HR _).mono ?_
  rintro e wx ⟨rfl,hw⟩
  rw [hw]
  clear hw wx
  go_wp2_with fail
  go_ret
  exact ⟨rfl,(oz HX).bl⟩
 | true =>
  rw [r0] at HR
  cases r1:za7 T r with
  | true =>
   obtain rfl:pb=false:=by rw [← oz HP];unfold zaN;rw [r0,r1];rfl
   rw [r1] at HM
   clear HP r0 r1
   go_enter Tryz.func91,Tryz.ntmps91
   go_wp2_with fail
   generalize W.alloc (.cells #[.slice A.a0 T.sc.length A.c0,.slice A.a1 T.co.length A.c1,.slice A.a2 T.ma.length A.c2,.slice A.a3 T.pr.length A.c3,.slice A.a4 T.fo.length A.c4,.slice A.a5 T.lk.length A.c5,.slice A.a6 T.dr.length A.c6,.slice A.a7 T.al.length A.c7] 28)=w0 at *
   refine (oz HR _).mono ?_
   rintro e wx ⟨rfl,hw⟩
   rw [hw]
   clear hw wx
   go_wp2_with fail
   refine (oz HM _ (oz HX).tv).mono ?_
   rintro e w1 ⟨rfl,hb⟩
   have HX1:=kz ((oz HX).below hb)
   clear z0 z1 z2 z3 z4 z5 z6 z7
   clear hb HM HX
   go_wp2_with fail
   go_ret
   exact ⟨rfl,(oz HX1).bl⟩
  | false =>
   rw [r1] at HM
   cases r2:zdn T r with
   | true =>
    obtain rfl:pb=false:=by rw [← oz HP];unfold zaN;rw [r0,r1,r2];rfl
    have hi:¬ zd1 T.pr (fun x =>x.1 == r) < 0:=by
     have:=zcp T.pr (fun x =>x.1 == r)
     rw [show T.pr.any (fun x =>x.1 == r)=true from r2] at this
     exact of_decide_eq_false this
    generalize zd1 T.pr (fun x =>x.1 == r)=ii at *
    clear HP r0 r1 r2
    go_enter Tryz.func91,Tryz.ntmps91
    go_wp2_with fail
    generalize W.alloc (.cells #[.slice A.a0 T.sc.length A.c0,.slice A.a1 T.co.length A.c1,.slice A.a2 T.ma.length A.c2,.slice A.a3 T.pr.length A.c3,.slice A.a4 T.fo.length A.c4,.slice A.a5 T.lk.length A.c5,.slice A.a6 T.dr.length A.c6,.slice A.a7 T.al.length A.c7] 28)=w0 at *
    refine (oz HR _).mono ?_
    rintro e wx ⟨rfl,hw⟩
    rw [hw]
    clear hw wx
    go_wp2_with fail
    refine (oz HM _ (oz HX).tv).mono ?_
    rintro e w1 ⟨rfl,hb⟩
    have HX1:=kz ((oz HX).below hb)
    clear z0 z1 z2 z3 z4 z5 z6 z7
    clear hb HM HX
    have z0:=(oz HX1).z0
    have z1:=(oz HX1).z1
    have z2:=(oz HX1).z2
    have z3:=(oz HX1).z3
    have z4:=(oz HX1).z4
    have z5:=(oz HX1).z5
    have z6:=(oz HX1).z6
    have z7:=(oz HX1).z7
    go_wp2_with fail
    refine (oz HW _ (oz HX1).tv).mono ?_
    rintro e w2 ⟨rfl,hb⟩
    have HX2:=kz ((oz HX1).below hb)
    clear z0 z1 z2 z3 z4 z5 z6 z7
    clear hb HW HX1
    go_wp2_with fail
    go_ret
    exact ⟨rfl,(oz HX2).bl⟩
   | false =>
    have hi:zd1 T.pr (fun x =>x.1 == r) < 0:=by
     have:=zcp T.pr (fun x =>x.1 == r)
     rw [show T.pr.any (fun x =>x.1 == r)=false from r2] at this
     exact of_decide_eq_true this
    generalize zd1 T.pr (fun x =>x.1 == r)=ii at *
    cases r3:drB T r with
    | true =>
     obtain rfl:pb=false:=by rw [← oz HP];unfold zaN;rw [r0,r1,r2,r3];rfl
     rw [show zam T.dr r=true from r3] at HO
     clear HP r0 r1 r2 r3
     go_enter Tryz.func91,Tryz.ntmps91
     go_wp2_with fail
     generalize W.alloc (.cells #[.slice A.a0 T.sc.length A.c0,.slice A.a1 T.co.length A.c1,.slice A.a2 T.ma.length A.c2,.slice A.a3 T.pr.length A.c3,.slice A.a4 T.fo.length A.c4,.slice A.a5 T.lk.length A.c5,.slice A.a6 T.dr.length A.c6,.slice A.a7 T.al.length A.c7] 28)=w0 at *
     refine (oz HR _).mono ?_
     rintro e wx ⟨rfl,hw⟩
     rw [hw]
     clear hw wx
     go_wp2_with fail
     refine (oz HM _ (oz HX).tv).mono ?_
     rintro e w1 ⟨rfl,hb⟩
     have HX1:=kz ((oz HX).below hb)
     clear z0 z1 z2 z3 z4 z5 z6 z7
     clear hb HM HX
     have z0:=(oz HX1).z0
     have z1:=(oz HX1).z1
     have z2:=(oz HX1).z2
     have z3:=(oz HX1).z3
     have z4:=(oz HX1).z4
     have z5:=(oz HX1).z5
     have z6:=(oz HX1).z6
     have z7:=(oz HX1).z7
     go_wp2_with fail
     refine (oz HW _ (oz HX1).tv).mono ?_
     rintro e w2 ⟨rfl,hb⟩
     have HX2:=kz ((oz HX1).below hb)
     clear z0 z1 z2 z3 z4 z5 z6 z7
     clear hb HW HX1
     have z6:=(oz HX2).z6
     go_wp2_with fail
     refine (oz HO _ _ _ (oz HX2).ti.r6).mono ?_
     rintro e wx ⟨rfl,hw⟩
     rw [hw]
     clear hw wx
     go_wp2_with fail
     go_ret
     exact ⟨rfl,(oz HX2).bl⟩
    | false =>
     rw [show zam T.dr r=false from r3] at HO
     cases r4:zdN T.fo r with
     | true =>
      obtain rfl:pb=false:=by rw [← oz HP];unfold zaN;rw [r0,r1,r2,r3,r4];rfl
      have hj:¬ zd1 T.fo (fun x =>x.1 == r) < 0:=by
       have:=zcp T.fo (fun x =>x.1 == r)
       rw [show T.fo.any (fun x =>x.1 == r)=true from r4] at this
       exact of_decide_eq_false this
      generalize zd1 T.fo (fun x =>x.1 == r)=jj at *
      clear HP r0 r1 r2 r3 r4
      go_enter Tryz.func91,Tryz.ntmps91
      go_wp2_with fail
      generalize W.alloc (.cells #[.slice A.a0 T.sc.length A.c0,.slice A.a1 T.co.length A.c1,.slice A.a2 T.ma.length A.c2,.slice A.a3 T.pr.length A.c3,.slice A.a4 T.fo.length A.c4,.slice A.a5 T.lk.length A.c5,.slice A.a6 T.dr.length A.c6,.slice A.a7 T.al.length A.c7] 28)=w0 at *
      refine (oz HR _).mono ?_
      rintro e wx ⟨rfl,hw⟩
      rw [hw]
      clear hw wx
      go_wp2_with fail
      refine (oz HM _ (oz HX).tv).mono ?_
      rintro e w1 ⟨rfl,hb⟩
      have HX1:=kz ((oz HX).below hb)
      clear z0 z1 z2 z3 z4 z5 z6 z7
      clear hb HM HX
      have z0:=(oz HX1).z0
      have z1:=(oz HX1).z1
      have z2:=(oz HX1).z2
      have z3:=(oz HX1).z3
      have z4:=(oz HX1).z4
      have z5:=(oz HX1).z5
      have z6:=(oz HX1).z6
      have z7:=(oz HX1).z7
      go_wp2_with fail
      refine (oz HW _ (oz HX1).tv).mono ?_
      rintro e w2 ⟨rfl,hb⟩
      have HX2:=kz ((oz HX1).below hb)
      clear z0 z1 z2 z3 z4 z5 z6 z7
      clear hb HW HX1
      have z6:=(oz HX2).z6
      have z4:=(oz HX2).z4
      go_wp2_with fail
      refine (oz HO _ _ _ (oz HX2).ti.r6).mono ?_
      rintro e wx ⟨rfl,hw⟩
      rw [hw]
      clear hw wx
      go_wp2_with fail
      refine (oz HF _ _ _ (oz HX2).ti.r4).mono ?_
      rintro e wx ⟨rfl,hw⟩
      rw [hw]
      clear hw wx
      go_wp2_with fail
      go_ret
      exact ⟨by first | rfl | simp [hj],(oz HX2).bl⟩
     | false =>
      obtain rfl:pb=true:=by rw [← oz HP];unfold zaN;rw [r0,r1,r2,r3,r4];rfl
      have hj:zd1 T.fo (fun x =>x.1 == r) < 0:=by
       have:=zcp T.fo (fun x =>x.1 == r)
       rw [show T.fo.any (fun x =>x.1 == r)=false from r4] at this
       exact of_decide_eq_true this
      generalize zd1 T.fo (fun x =>x.1 == r)=jj at *
      clear HP r0 r1 r2 r3 r4
      go_enter Tryz.func91,Tryz.ntmps91
      go_wp2_with fail
      generalize W.alloc (.cells #[.slice A.a0 T.sc.length A.c0,.slice A.a1 T.co.length A.c1,.slice A.a2 T.ma.length A.c2,.slice A.a3 T.pr.length A.c3,.slice A.a4 T.fo.length A.c4,.slice A.a5 T.lk.length A.c5,.slice A.a6 T.dr.length A.c6,.slice A.a7 T.al.length A.c7] 28)=w0 at *
      refine (oz HR _).mono ?_
      rintro e wx ⟨rfl,hw⟩
      rw [hw]
      clear hw wx
      go_wp2_with fail
      refine (oz HM _ (oz HX).tv).mono ?_
      rintro e w1 ⟨rfl,hb⟩
      have HX1:=kz ((oz HX).below hb)
      clear z0 z1 z2 z3 z4 z5 z6 z7
      clear hb HM HX
      have z0:=(oz HX1).z0
      have z1:=(oz HX1).z1
      have z2:=(oz HX1).z2
      have z3:=(oz HX1).z3
      have z4:=(oz HX1).z4
      have z5:=(oz HX1).z5
      have z6:=(oz HX1).z6
      have z7:=(oz HX1).z7
      go_wp2_with fail
      refine (oz HW _ (oz HX1).tv).mono ?_
      rintro e w2 ⟨rfl,hb⟩
      have HX2:=kz ((oz HX1).below hb)
      clear z0 z1 z2 z3 z4 z5 z6 z7
      clear hb HW HX1
      have z6:=(oz HX2).z6
      have z4:=(oz HX2).z4
      go_wp2_with fail
      refine (oz HO _ _ _ (oz HX2).ti.r6).mono ?_
      rintro e wx ⟨rfl,hw⟩
      rw [hw]
      clear hw wx
      go_wp2_with fail
      refine (oz HF _ _ _ (oz HX2).ti.r4).mono ?_
      rintro e wx ⟨rfl,hw⟩
      rw [hw]
      clear hw wx
      go_wp2_with fail
      go_ret
      exact ⟨by first | rfl | simp [hj],(oz HX2).bl⟩
def chI:Option Nat→Int
 | none => -1
 | some n =>(n:Int)
theorem znq {T:TV} {f:Nat} {b:Int} {n:Nat} (h:zbC T b=none):zcu T (f+1) b n=some n:=by
 show (match zbC T b with | none =>some n | some q =>zcu T f q.2.1 (n+1))=some n
 rw [h]
theorem znr {T:TV} {f:Nat} {b:Int} {n:Nat} {q:Int × Int × Int} (h:zbC T b=some q):zcu T (f+1) b n=zcu T f q.2.1 (n+1):=by
 show (match zbC T b with | none =>some n | some q =>zcu T f q.2.1 (n+1))=_
 rw [h]
theorem zjv (T:TV) (hT:T.pr.length≤1048576) (v:Value) (k0:Nat) (x0:Int × Int × Int) (hx0:T.pr[k0]?=some x0) (W:World) (hv:TbV W T v) :
  Calls Tryz.prog 88 #[v,.int .i64 k0] W fun e w' =>e=.returned (.int .i64 (chI (zcu T T.pr.length x0.2.1 1)))∧Below W.heap.size W w':=by
 obtain ⟨A,rfl,hA⟩:=hv
 have HX:=kz (TbX.start hA)
 have HW:=kz (fun r w (hv:TbV w T (.agg #[.slice A.a0 T.sc.length A.c0,.slice A.a1 T.co.length A.c1,.slice A.a2 T.ma.length A.c2,.slice A.a3 T.pr.length A.c3,.slice A.a4 T.fo.length A.c4,.slice A.a5 T.lk.length A.c5,.slice A.a6 T.dr.length A.c6,.slice A.a7 T.al.length A.c7])) =>zdK T hT _ r w hv)
 have HV:∃ mb,Hz (zcu T T.pr.length x0.2.1 1=mb):=⟨_,kz rfl⟩
 obtain ⟨mb,HV⟩:=HV
 rw [oz HV]
 have HK0:=kz hx0
 clear hA hx0
 go_enter Tryz.func88,Tryz.ntmps88
 go_wp2_with fail
 generalize W.alloc (.cells #[.slice A.a0 T.sc.length A.c0,.slice A.a1 T.co.length A.c1,.slice A.a2 T.ma.length A.c2,.slice A.a3 T.pr.length A.c3,.slice A.a4 T.fo.length A.c4,.slice A.a5 T.lk.length A.c5,.slice A.a6 T.dr.length A.c6,.slice A.a7 T.al.length A.c7] 28)=w0 at *
 go_loopw [1,5] (fun iv nv wr => ∃ (k n f:Nat) (x:Int × Int × Int),iv=.int .i64 k∧nv=.int .i64 n∧n+f=T.pr.length+1∧Hz (T.pr[k]?=some x)∧Hz (zcu T f x.2.1 n=mb)∧Hz (TbX W wr T A)) (fun _ nv _ =>T.pr.length+1 - (intOf nv).toNat)
 case atStart =>exact ⟨k0,1,T.pr.length,x0,rfl,rfl,by omega,HK0,HV,HX⟩
 case round =>
  clear HX HV HK0
  obtain ⟨k,n,f,x,rfl,rfl,hnf,HK,HV,HX⟩:=hrel
  have z3:=(oz HX).z3
  by_cases hn:n≤T.pr.length
  ·obtain ⟨f,rfl⟩:∃ f',f=f' + 1:=⟨f - 1,by omega⟩
   have n1:(n:Int)≤(T.pr.length:Int):=by omega
   obtain ⟨g,o,ea,hg,c0,c1,c2⟩:=zoz (oz HX).ti.r3 (oz HK)
   have hkl:=(List.getElem?_eq_some_iff.1 (oz HK)).1
   have k1:(k:Int) < (T.pr.length:Int):=by omega
   have k2:((k:Nat):Int).toNat=k:=by omega
   have y1:=cell_regrown c1
   have y0:=cell_regrown (oz HX).z0
   have w1z:=cell_regrown (oz HX).z1
   have y2:=cell_regrown (oz HX).z2
   have y3:=cell_regrown (oz HX).z3
   have y4:=cell_regrown (oz HX).z4
   have y5:=cell_regrown (oz HX).z5
   have y6:=cell_regrown (oz HX).z6
   have y7:=cell_regrown (oz HX).z7
   have HC:=kz (fun w' (hb:Below wr.heap.size wr w') =>oz HW x.2.1 w' ((oz HX).tv.below hb))
   rw [ea] at z3 y3 HC
   have HN3:Hz (n+f=T.pr.length):=kz (by omega)
   clear c0 c1 c2 hg ea hkl hnf
   rcases zfs T.pr (fun y =>y.1 == x.2.1) with ⟨e1,_,e3⟩ | ⟨j,q,e1,hj,hq,_,_,e3,_⟩
   ·have hm:mb=some n:=by rw [← oz HV];exact znq e3
    subst hm
    rw [e1] at HC
    clear HV HK e1 e3
    go_wp2_with fail
    refine wp_region_quiet_below (by kernel_rfl) (by kernel_rfl) ?_
    repeat (go_big_quiet_step (exact Calls.regrown_of (oz HC _ (below_regrown _ _ _))))
    first | refine wpQuiet_nil ?_ | skip
    rintro w' ⟨p,rfl⟩
    have HBq:=kz (below_regrown wr p.d p.os)
    generalize Go.Sort.grow (redrawn wr p.d) p.os=w1 at *
    have HX1:=kz ((oz HX).below (oz HBq))
    clear y0 y1 w1z y2 y3 y4 y5 y6 y7 z3 HC
    go_wp2_with fail
    go_ret
    exact ⟨rfl,(oz HX1).bl⟩
   ·have HQ:=kz hq
    have HV2:Hz (zcu T f q.2.1 (n+1)=mb):=kz (by rw [← oz HV];exact (znr e3).symm)
    have hj0:¬ ((j:Nat):Int) < 0:=by omega
    rw [e1] at HC
    clear HV HK e1 e3 hq hj
    go_wp2_with fail
    refine wp_region_quiet_below (by kernel_rfl) (by kernel_rfl) ?_
    repeat (go_big_quiet_step (exact Calls.regrown_of (oz HC _ (below_regrown _ _ _))))
    first | refine wpQuiet_nil ?_ | skip
    rintro w' ⟨p,rfl⟩
    have HBq:=kz (below_regrown wr p.d p.os)
    generalize Go.Sort.grow (redrawn wr p.d) p.os=w1 at *
    have HX1:=kz ((oz HX).below (oz HBq))
    clear y0 y1 w1z y2 y3 y4 y5 y6 y7 z3 HC
    go_wp2_with fail
    exact ⟨⟨j,n+1,f,q,rfl,by first | rfl | go_num,by have:=oz HN3;omega,HQ,HV2,HX1⟩,by simp [intOf];omega⟩
  ·have n1:¬ (n:Int)≤(T.pr.length:Int):=by omega
   obtain rfl:f=0:=by omega
   have hm:mb=none:=(oz HV).symm
   subst hm
   clear HV HK
   go_wp2_with fail
   go_ret
   exact ⟨rfl,(oz HX).bl⟩
end Go.Proofs.YtmemedpoaocdkaaGreat
