/- StripPlaces, walked. -/
import Derived.Test.YtoaiicbicdhkkaaGreatYa
namespace Go.Proofs.YtoaiicbicdhkkaaGreat
open Go.RowKit Go.Shelf Go.Maps
set_option linter.unusedVariables false
theorem placeQ_get {T:TV} {s:ByteArray} {k:Nat} {x:Nat × Nat} (h:(zbi T s)[k]?=some x):zdw T s (k:Int)=some x:=by
 have hl:=(List.getElem?_eq_some_iff.1 h).1
 unfold zdw
 rw [if_neg (by omega),if_neg (by omega),Int.toNat_natCast]
 exact h
set_option maxRecDepth 100000 in
set_option maxHeartbeats 8000000 in
theorem places_tb (T:TV) (hT:TabB T) (hI:TabI T) (A:TbA) (s:ByteArray) (hs:s.size≤1000000000) (n:Int) (W:World) (hA:zhe W T A) :
  Calls Tryz.prog 8 #[.agg #[.slice A.a0 T.sc.length A.c0,.slice A.a1 T.co.length A.c1,.slice A.a2 T.ma.length A.c2,.slice A.a3 T.pr.length A.c3,.slice A.a4 T.fo.length A.c4,.slice A.a5 T.lk.length A.c5,.slice A.a6 T.dr.length A.c6,.slice A.a7 T.al.length A.c7],.string s,.int .i64 n] W fun e w' =>e=.returned (.bool true)∧Below W.heap.size W w':=by
 have hmx:Tryz.prog.follows .mixedOrders=true:=by kernel_rfl
 have HX:=kz (TbX.start hA)
 have HC:=kz (of_any T hT hI _ _ (TbX.start hA).tv)
 clear hA hT hI
 go_enter Tryz.func8,Tryz.ntmps8
 have z0:=(oz HX).z0
 have z1:=(oz HX).z1
 have z2:=(oz HX).z2
 have z3:=(oz HX).z3
 have z4:=(oz HX).z4
 have z5:=(oz HX).z5
 have z6:=(oz HX).z6
 have z7:=(oz HX).z7
 have HW0:=kz (oz HX).bl
 go_wp2_with fail
 generalize W.alloc (.cells #[.slice A.a0 T.sc.length A.c0,.slice A.a1 T.co.length A.c1,.slice A.a2 T.ma.length A.c2,.slice A.a3 T.pr.length A.c3,.slice A.a4 T.fo.length A.c4,.slice A.a5 T.lk.length A.c5,.slice A.a6 T.dr.length A.c6,.slice A.a7 T.al.length A.c7] 31)=w0 at *
 refine (oz HC).mono ?_
 rintro e w1 ⟨p,rfl,hV⟩
 have HB1:=kz ((oz HW0).trans (hV.bl.mono (oz HW0).size))
 clear HC z0 z1 z2 z3 z4 z5 z6 z7 HX HW0
 cases hu:upB T with
 | false =>
  clear hV hu
  go_wp2_with fail
  refine (known11 w1).mono ?_
  rintro e w2 ⟨rfl,hb⟩
  have HB2:=kz ((oz HB1).trans (hb.mono (oz HB1).size))
  clear hb HB1
  go_wp2
  go_ret
  exact ⟨rfl,oz HB2⟩
 | true =>
  obtain ⟨_,hO,B,rfl,hB,hbk⟩:=hV.ok hu
  have hBK:=kz (fun w (h:Below w1.heap.size w1 w) =>hbk.below h)
  have HH:=kz hO
  have hsm:s.size≤maxLen:=by unfold maxLen;omega
  have hc1:=strip_size T s
  have H1:=kz (zeI T hO s (by omega) B w1 hbk)
  obtain ⟨c,hc⟩:∃ c,c=zd2 T s:=⟨_,rfl⟩
  rw [← hc] at H1 hc1
  have HC:=kz hc
  clear hV hu hbk hc
  have G1:=kz (Below.refl w1.heap.size w1)
  by_cases hn0:n < 0
  ·have hd0:decide (n < 0)=true:=by simpa using hn0
   go_wp2_with fail
   refine (oz H1).mono ?_
   rintro e w2 ⟨rfl,hb⟩
   have G2:=kz ((oz G1).trans hb)
   have hge2:=hb.size
   clear hb G1 H1
   go_wp2_with fail
   go_loopw [11,12] (fun la kk wr => ∃ (pre:List Nat) (pos f:Nat),la=.int .i64 (lastQ T s pre.length)∧kk=.int .i64 pre.length∧pre.length≤61∧lastQ T s pre.length≤s.size∧Hz (zav c=pre++zal c f pos)∧c.size≤pos+f∧Hz (wr.heap[w2.heap.size]?=some (.stringIter c pos))∧Hz (Below w1.heap.size w1 wr))
    (fun _ _ wr =>c.size - wr.iterPos w2.heap.size)
   case atStart =>
    exact ⟨[],0,c.size,rfl,rfl,by decide,Nat.zero_le _,kz rfl,by omega,kz (World.iter_heap w2 c 0),kz ((oz G2).alloc (oz G2).size (.stringIter c 0))⟩
   case round =>
    obtain ⟨pre,pos,f,rfl,rfl,hpl,hla,HST,hf,HIT,HG⟩:=hrel
    have hit:=oz HIT
    by_cases hp:pos < c.size
    ·obtain ⟨f,rfl⟩:∃ g,f=g+1:=⟨f - 1,by omega⟩
     have hst:=oz HST
     rw [zaF c f pos hp] at hst
     obtain ⟨p,m,hQ,hrn⟩:=strip_at (T:=T) (s:=s) (by rw [← oz HC];exact hst)
     rw [← oz HC] at hrn
     obtain ⟨hlt,hle,hno,hnum,hone⟩:=place_ok hQ
     have HPV:=kz (placeQ_get hQ)
     have HNO:=kz hno
     have HNU:=kz hnum
     have HON:=kz hone
     have HLA:=kz (place_last hQ)
     have hpw:=zeB s p hlt
     have HS:=kz hst
     have hnx:∀ ty,(Instr.next (.pointer (some ⟨w2.heap.size,0,none⟩)) true ty).run Tryz.prog wr=_:=fun ty =>Lib.run_next_any_at wr w2.heap.size c pos ty hit hp
     have hb1:=zdS (B:=w2.heap.size) wr w2.heap.size c (pos+(Utf8.decode c pos).2) (Nat.le_refl _)
     have hi1:=Lib.iterAt_heap wr w2.heap.size c pos (pos+(Utf8.decode c pos).2) hit
     have hsz:w2.heap.size < (wr.iterAt w2.heap.size c (pos+(Utf8.decode c pos).2)).heap.size:=(Array.getElem?_eq_some_iff.1 hi1).1
     have G3:=kz ((oz HG).trans (hb1.mono hge2))
     have HI1:=kz hi1
     rw [show rn c pos=(Utf8.decode c pos).1 from rfl] at hrn
     clear hb1 hi1 hst hit HST HG hQ hno hnum hone
     rw [hrn] at hnx
     generalize wr.iterAt w2.heap.size c (pos+(Utf8.decode c pos).2)=w3 at *
     generalize lastQ T s pre.length=la at *
     by_cases hk:(pre.length:Int) > 60
     ·go_wp2_with fail
      refine (known11 _).mono ?_
      rintro e wc ⟨rfl,hb⟩
      have Gc:=kz ((oz G3).trans (hb.mono (oz G3).size))
      clear hb G3
      go_wp2
      go_ret
      exact ⟨rfl,(oz HB1).trans ((oz Gc).mono (oz HB1).size)⟩
     ·have hnot:¬ (pre.length:Int) > 60:=hk
      have hpl2:pre.length≤60:=by omega
      go_wp2_with fail
      have h:=zeL T (oz HH) s (by omega) (pre.length:Int) (by omega) B w3 (oz hBK w3 (oz G3))
      rw [oz HPV] at h
      refine h.mono ?_
      clear h
      rintro e w4 ⟨rfl,hb⟩
      rw [show zdp (some (p,m))=.tuple #[.agg #[.int .i64 p,.int .i64 m],.bool true] from rfl]
      have I4:=kz ((hb.block _ hsz).trans (oz HI1))
      have X4:=kz (Blk.new w4 #[.int .i64 p,.int .i64 m] 35)
      have I5:=kz ((Below.heap_alloc w4 (.cells #[.int .i64 p,.int .i64 m] 35) _ (Array.getElem?_eq_some_iff.1 (oz I4)).1).trans (oz I4))
      have G4:=kz (((oz G3).trans (hb.mono (oz G3).size)).alloc (by have:=(oz G3).size;have:=hb.size;omega) (.cells #[.int .i64 p,.int .i64 m] 35))
      have hw4:w3.heap.size≤w4.heap.size:=hb.size
      clear hb G3 HI1 I4
      have x0:=(oz X4).cell 0
      have x1:=(oz X4).cell 1
      have e1:¬ (p:Int) < (la:Int):=by omega
      have e2:¬ (p:Int) ≥ (s.size:Int):=by omega
      have e3:(la:Int)≤(p:Int):=by omega
      have e4:(p:Int)≤(s.size:Int):=by omega
      have e5:((p:Nat):Int).toNat=p:=by omega
      have e6:((la:Nat):Int).toNat=la:=by omega
      go_wp2_with fail
      generalize w4.alloc (.cells #[.int .i64 p,.int .i64 m] 35)=w5 at *
      have h:=zeI T (oz HH) (s.extract la p) (by rw [ByteArray.size_extract];omega) B w5 (oz hBK w5 (oz G4))
      rw [oz HNO] at h
      refine h.mono ?_
      clear h
      rintro e w6 ⟨rfl,hb⟩
      have I6:=kz ((hb.block _ (Array.getElem?_eq_some_iff.1 (oz I5)).1).trans (oz I5))
      have X6:=kz ((oz X4).below hb (oz X4).lt)
      have G6:=kz ((oz G4).trans (hb.mono (oz G4).size))
      clear hb G4 I5 X4 x0 x1
      have x0:=(oz X6).cell 0
      have x1:=(oz X6).cell 1
      go_wp2_with fail
      have h:=first_any (s.extract p s.size) (by rw [ByteArray.size_extract];unfold maxLen;omega) w6
      rw [oz HON] at h
      refine h.mono ?_
      clear h
      rintro e w7 ⟨rfl,hb⟩
      have I7:=kz ((hb.block _ (Array.getElem?_eq_some_iff.1 (oz I6)).1).trans (oz I6))
      have X7:=kz (((oz X6).below hb (oz X6).lt).alloc (.cells (zfv (zgJ s p)) 66))
      have Y7:=kz (Blk.new w7 (zfv (zgJ s p)) 66)
      have J7:=kz ((Below.heap_alloc w7 (.cells (zfv (zgJ s p)) 66) _ (Array.getElem?_eq_some_iff.1 (oz I7)).1).trans (oz I7))
      have G7:=kz (((oz G6).trans (hb.mono (oz G6).size)).alloc (by have:=(oz G6).size;have:=hb.size;omega) (.cells (zfv (zgJ s p)) 66))
      clear hb G6 I6 X6 x0 x1 I7
      go_wp2_with fail
      generalize w7.alloc (.cells (zfv (zgJ s p)) 66)=w8 at *
      have y0:=cell_regrown (show w8.cell? ⟨w7.heap.size,0,none⟩=some (.int .i32 (rn s p)) from (oz Y7).cell 0)
      have x0:=cell_regrown (show w8.cell? ⟨w4.heap.size,0,none⟩=some (.int .i64 p) from (oz X7).cell 0)
      have x1:=cell_regrown (show w8.cell? ⟨w4.heap.size,1,none⟩=some (.int .i64 m) from (oz X7).cell 1)
      have q1:((rn s p:Int) != (rn s p:Int))=false:=by simp
      have q2:((m:Int) != (m:Int))=false:=by simp
      have HCT:=kz (fun w =>zhN (s.extract 0 p) (by rw [ByteArray.size_extract];unfold maxLen;omega) w)
      rw [oz HNU] at HCT
      refine wp_region_quiet_below (by kernel_rfl) (by kernel_rfl) ?_
      repeat (go_big_quiet_step (exact Calls.regrown_of (oz HCT _)))
      first | refine wpQuiet_nil ?_ | skip
      rintro w' ⟨dq,rfl⟩
      have hbr:=below_regrown w8 dq.d dq.os
      generalize Go.Sort.grow (redrawn w8 dq.d) dq.os=w9 at *
      have I9:=kz ((hbr.block _ (Array.getElem?_eq_some_iff.1 (oz J7)).1).trans (oz J7))
      have X9:=(oz X7).below hbr (oz X7).lt
      have Y9:=(oz Y7).below hbr (oz Y7).lt
      have G9:=kz ((oz G7).trans (hbr.mono (oz G7).size))
      clear hbr G7 J7 X7 Y7 x0 x1 y0 HCT
      have x0:w9.cell? ⟨w4.heap.size,0,none⟩=some (.int .i64 p):=X9.cell 0
      have y1:w9.cell? ⟨w7.heap.size,1,none⟩=some (.int .i64 (wd s p)):=Y9.cell 1
      have HK1:=kz (show (pre.length:Int)+1=((pre.length+1:Nat):Int) by omega)
      have HPW:=kz hpw
      obtain ⟨d,hd⟩:∃ d,d=wd s p:=⟨_,rfl⟩
      rw [← hd] at y1 HLA HPW hpw
      obtain ⟨e0,he0⟩:∃ e0,e0=p+d:=⟨_,rfl⟩
      have hadd:(p:Int)+(d:Int)=(e0:Int):=by omega
      have hle0:e0≤1000000000:=by omega
      rw [← he0] at HLA HPW
      clear hd he0
      clear X9 Y9
      go_wp2_with fail
      have hwc:=zcW c pos
      have hlen:(pre++[pos]).length=pre.length+1:=by simp
      go_roundw
      case rel =>
       refine ⟨pre++[pos],pos+wd c pos,f, ?_, ?_,by rw [hlen];omega,by rw [hlen,oz HLA];exact oz HPW,kz (by rw [oz HS];simp),by omega,I9,G9⟩
       ·rw [hlen,oz HLA]
       ·rw [hlen]
        first | rfl | rw [oz HK1] | go_num
      case measure =>rw [za6 (oz I9),za6 (oz HIT)];simp only [wd] at hwc;omega
    ·have hnx:∀ ty,(Instr.next (.pointer (some ⟨w2.heap.size,0,none⟩)) true ty).run Tryz.prog wr=_:=fun ty =>Lib.run_next_end_at wr w2.heap.size c pos ty hit hp
     clear hit HST
     go_wp2_with fail
     refine (known11 _).mono ?_
     rintro e wc ⟨rfl,hb⟩
     have Gc:=kz ((oz HG).trans (hb.mono (oz HG).size))
     clear hb HG
     go_wp2
     go_ret
     exact ⟨rfl,(oz HB1).trans ((oz Gc).mono (oz HB1).size)⟩
  ·by_cases hn6:(60:Int) < n
   ·have hd1:n > 60:=hn6
    go_wp2_with fail
    refine (oz H1).mono ?_
    rintro e w2 ⟨rfl,hb⟩
    have G2:=kz ((oz G1).trans hb)
    have hge2:=hb.size
    clear hb G1 H1
    go_wp2_with fail
    go_loopw [11,12] (fun la kk wr => ∃ (pre:List Nat) (pos f:Nat),la=.int .i64 (lastQ T s pre.length)∧kk=.int .i64 pre.length∧pre.length≤61∧lastQ T s pre.length≤s.size∧Hz (zav c=pre++zal c f pos)∧c.size≤pos+f∧Hz (wr.heap[w2.heap.size]?=some (.stringIter c pos))∧Hz (Below w1.heap.size w1 wr))
     (fun _ _ wr =>c.size - wr.iterPos w2.heap.size)
    case atStart =>
     exact ⟨[],0,c.size,rfl,rfl,by decide,Nat.zero_le _,kz rfl,by omega,kz (World.iter_heap w2 c 0),kz ((oz G2).alloc (oz G2).size (.stringIter c 0))⟩
    case round =>
     obtain ⟨pre,pos,f,rfl,rfl,hpl,hla,HST,hf,HIT,HG⟩:=hrel
     have hit:=oz HIT
     by_cases hp:pos < c.size
     ·obtain ⟨f,rfl⟩:∃ g,f=g+1:=⟨f - 1,by omega⟩
      have hst:=oz HST
      rw [zaF c f pos hp] at hst
      obtain ⟨p,m,hQ,hrn⟩:=strip_at (T:=T) (s:=s) (by rw [← oz HC];exact hst)
      rw [← oz HC] at hrn
      obtain ⟨hlt,hle,hno,hnum,hone⟩:=place_ok hQ
      have HPV:=kz (placeQ_get hQ)
      have HNO:=kz hno
      have HNU:=kz hnum
      have HON:=kz hone
      have HLA:=kz (place_last hQ)
      have hpw:=zeB s p hlt
      have HS:=kz hst
      have hnx:∀ ty,(Instr.next (.pointer (some ⟨w2.heap.size,0,none⟩)) true ty).run Tryz.prog wr=_:=fun ty =>Lib.run_next_any_at wr w2.heap.size c pos ty hit hp
      have hb1:=zdS (B:=w2.heap.size) wr w2.heap.size c (pos+(Utf8.decode c pos).2) (Nat.le_refl _)
      have hi1:=Lib.iterAt_heap wr w2.heap.size c pos (pos+(Utf8.decode c pos).2) hit
      have hsz:w2.heap.size < (wr.iterAt w2.heap.size c (pos+(Utf8.decode c pos).2)).heap.size:=(Array.getElem?_eq_some_iff.1 hi1).1
      have G3:=kz ((oz HG).trans (hb1.mono hge2))
      have HI1:=kz hi1
      rw [show rn c pos=(Utf8.decode c pos).1 from rfl] at hrn
      clear hb1 hi1 hst hit HST HG hQ hno hnum hone
      rw [hrn] at hnx
      generalize wr.iterAt w2.heap.size c (pos+(Utf8.decode c pos).2)=w3 at *
      generalize lastQ T s pre.length=la at *
      by_cases hk:(pre.length:Int) > 60
      ·go_wp2_with fail
       refine (known11 _).mono ?_
       rintro e wc ⟨rfl,hb⟩
       have Gc:=kz ((oz G3).trans (hb.mono (oz G3).size))
       clear hb G3
       go_wp2
       go_ret
       exact ⟨rfl,(oz HB1).trans ((oz Gc).mono (oz HB1).size)⟩
      ·have hnot:¬ (pre.length:Int) > 60:=hk
       have hpl2:pre.length≤60:=by omega
       go_wp2_with fail
       have h:=zeL T (oz HH) s (by omega) (pre.length:Int) (by omega) B w3 (oz hBK w3 (oz G3))
       rw [oz HPV] at h
       refine h.mono ?_
       clear h
       rintro e w4 ⟨rfl,hb⟩
       rw [show zdp (some (p,m))=.tuple #[.agg #[.int .i64 p,.int .i64 m],.bool true] from rfl]
       have I4:=kz ((hb.block _ hsz).trans (oz HI1))
       have X4:=kz (Blk.new w4 #[.int .i64 p,.int .i64 m] 35)
       have I5:=kz ((Below.heap_alloc w4 (.cells #[.int .i64 p,.int .i64 m] 35) _ (Array.getElem?_eq_some_iff.1 (oz I4)).1).trans (oz I4))
       have G4:=kz (((oz G3).trans (hb.mono (oz G3).size)).alloc (by have:=(oz G3).size;have:=hb.size;omega) (.cells #[.int .i64 p,.int .i64 m] 35))
       have hw4:w3.heap.size≤w4.heap.size:=hb.size
       clear hb G3 HI1 I4
       have x0:=(oz X4).cell 0
       have x1:=(oz X4).cell 1
       have e1:¬ (p:Int) < (la:Int):=by omega
       have e2:¬ (p:Int) ≥ (s.size:Int):=by omega
       have e3:(la:Int)≤(p:Int):=by omega
       have e4:(p:Int)≤(s.size:Int):=by omega
       have e5:((p:Nat):Int).toNat=p:=by omega
       have e6:((la:Nat):Int).toNat=la:=by omega
       go_wp2_with fail
       generalize w4.alloc (.cells #[.int .i64 p,.int .i64 m] 35)=w5 at *
       have h:=zeI T (oz HH) (s.extract la p) (by rw [ByteArray.size_extract];omega) B w5 (oz hBK w5 (oz G4))
       rw [oz HNO] at h
       refine h.mono ?_
       clear h
       rintro e w6 ⟨rfl,hb⟩
       have I6:=kz ((hb.block _ (Array.getElem?_eq_some_iff.1 (oz I5)).1).trans (oz I5))
       have X6:=kz ((oz X4).below hb (oz X4).lt)
       have G6:=kz ((oz G4).trans (hb.mono (oz G4).size))
       clear hb G4 I5 X4 x0 x1
       have x0:=(oz X6).cell 0
       have x1:=(oz X6).cell 1
       go_wp2_with fail
       have h:=first_any (s.extract p s.size) (by rw [ByteArray.size_extract];unfold maxLen;omega) w6
       rw [oz HON] at h
       refine h.mono ?_
       clear h
       rintro e w7 ⟨rfl,hb⟩
       have I7:=kz ((hb.block _ (Array.getElem?_eq_some_iff.1 (oz I6)).1).trans (oz I6))
       have X7:=kz (((oz X6).below hb (oz X6).lt).alloc (.cells (zfv (zgJ s p)) 66))
       have Y7:=kz (Blk.new w7 (zfv (zgJ s p)) 66)
       have J7:=kz ((Below.heap_alloc w7 (.cells (zfv (zgJ s p)) 66) _ (Array.getElem?_eq_some_iff.1 (oz I7)).1).trans (oz I7))
       have G7:=kz (((oz G6).trans (hb.mono (oz G6).size)).alloc (by have:=(oz G6).size;have:=hb.size;omega) (.cells (zfv (zgJ s p)) 66))
       clear hb G6 I6 X6 x0 x1 I7
       go_wp2_with fail
       generalize w7.alloc (.cells (zfv (zgJ s p)) 66)=w8 at *
       have y0:=cell_regrown (show w8.cell? ⟨w7.heap.size,0,none⟩=some (.int .i32 (rn s p)) from (oz Y7).cell 0)
       have x0:=cell_regrown (show w8.cell? ⟨w4.heap.size,0,none⟩=some (.int .i64 p) from (oz X7).cell 0)
       have x1:=cell_regrown (show w8.cell? ⟨w4.heap.size,1,none⟩=some (.int .i64 m) from (oz X7).cell 1)
       have q1:((rn s p:Int) != (rn s p:Int))=false:=by simp
       have q2:((m:Int) != (m:Int))=false:=by simp
       have HCT:=kz (fun w =>zhN (s.extract 0 p) (by rw [ByteArray.size_extract];unfold maxLen;omega) w)
       rw [oz HNU] at HCT
       refine wp_region_quiet_below (by kernel_rfl) (by kernel_rfl) ?_
       repeat (go_big_quiet_step (exact Calls.regrown_of (oz HCT _)))
       first | refine wpQuiet_nil ?_ | skip
       rintro w' ⟨dq,rfl⟩
       have hbr:=below_regrown w8 dq.d dq.os
       generalize Go.Sort.grow (redrawn w8 dq.d) dq.os=w9 at *
       have I9:=kz ((hbr.block _ (Array.getElem?_eq_some_iff.1 (oz J7)).1).trans (oz J7))
       have X9:=(oz X7).below hbr (oz X7).lt
       have Y9:=(oz Y7).below hbr (oz Y7).lt
       have G9:=kz ((oz G7).trans (hbr.mono (oz G7).size))
       clear hbr G7 J7 X7 Y7 x0 x1 y0 HCT
       have x0:w9.cell? ⟨w4.heap.size,0,none⟩=some (.int .i64 p):=X9.cell 0
       have y1:w9.cell? ⟨w7.heap.size,1,none⟩=some (.int .i64 (wd s p)):=Y9.cell 1
       have HK1:=kz (show (pre.length:Int)+1=((pre.length+1:Nat):Int) by omega)
       have HPW:=kz hpw
       obtain ⟨d,hd⟩:∃ d,d=wd s p:=⟨_,rfl⟩
       rw [← hd] at y1 HLA HPW hpw
       obtain ⟨e0,he0⟩:∃ e0,e0=p+d:=⟨_,rfl⟩
       have hadd:(p:Int)+(d:Int)=(e0:Int):=by omega
       have hle0:e0≤1000000000:=by omega
       rw [← he0] at HLA HPW
       clear hd he0
       clear X9 Y9
       go_wp2_with fail
       have hwc:=zcW c pos
       have hlen:(pre++[pos]).length=pre.length+1:=by simp
       go_roundw
       case rel =>
        refine ⟨pre++[pos],pos+wd c pos,f, ?_, ?_,by rw [hlen];omega,by rw [hlen,oz HLA];exact oz HPW,kz (by rw [oz HS];simp),by omega,I9,G9⟩
        ·rw [hlen,oz HLA]
        ·rw [hlen]
         first | rfl | rw [oz HK1] | go_num
       case measure =>rw [za6 (oz I9),za6 (oz HIT)];simp only [wd] at hwc;omega
     ·have hnx:∀ ty,(Instr.next (.pointer (some ⟨w2.heap.size,0,none⟩)) true ty).run Tryz.prog wr=_:=fun ty =>Lib.run_next_end_at wr w2.heap.size c pos ty hit hp
      clear hit HST
      go_wp2_with fail
      refine (known11 _).mono ?_
      rintro e wc ⟨rfl,hb⟩
      have Gc:=kz ((oz HG).trans (hb.mono (oz HG).size))
      clear hb HG
      go_wp2
      go_ret
      exact ⟨rfl,(oz HB1).trans ((oz Gc).mono (oz HB1).size)⟩
   ·have hd1:¬ n > 60:=hn6
    go_wp2_with fail
    refine (oz H1).mono ?_
    rintro e w2 ⟨rfl,hb⟩
    have G2:=kz ((oz G1).trans hb)
    have hge2:=hb.size
    clear hb G1 H1
    go_wp2_with fail
    go_loopw [11,12] (fun la kk wr => ∃ (pre:List Nat) (pos f:Nat),la=.int .i64 (lastQ T s pre.length)∧kk=.int .i64 pre.length∧pre.length≤61∧lastQ T s pre.length≤s.size∧Hz (zav c=pre++zal c f pos)∧c.size≤pos+f∧Hz (wr.heap[w2.heap.size]?=some (.stringIter c pos))∧Hz (Below w1.heap.size w1 wr))
     (fun _ _ wr =>c.size - wr.iterPos w2.heap.size)
    case atStart =>
     exact ⟨[],0,c.size,rfl,rfl,by decide,Nat.zero_le _,kz rfl,by omega,kz (World.iter_heap w2 c 0),kz ((oz G2).alloc (oz G2).size (.stringIter c 0))⟩
    case round =>
     obtain ⟨pre,pos,f,rfl,rfl,hpl,hla,HST,hf,HIT,HG⟩:=hrel
     have hit:=oz HIT
     by_cases hp:pos < c.size
     ·obtain ⟨f,rfl⟩:∃ g,f=g+1:=⟨f - 1,by omega⟩
      have hst:=oz HST
      rw [zaF c f pos hp] at hst
      obtain ⟨p,m,hQ,hrn⟩:=strip_at (T:=T) (s:=s) (by rw [← oz HC];exact hst)
      rw [← oz HC] at hrn
      obtain ⟨hlt,hle,hno,hnum,hone⟩:=place_ok hQ
      have HPV:=kz (placeQ_get hQ)
      have HNO:=kz hno
      have HNU:=kz hnum
      have HON:=kz hone
      have HLA:=kz (place_last hQ)
      have hpw:=zeB s p hlt
      have HS:=kz hst
      have hnx:∀ ty,(Instr.next (.pointer (some ⟨w2.heap.size,0,none⟩)) true ty).run Tryz.prog wr=_:=fun ty =>Lib.run_next_any_at wr w2.heap.size c pos ty hit hp
      have hb1:=zdS (B:=w2.heap.size) wr w2.heap.size c (pos+(Utf8.decode c pos).2) (Nat.le_refl _)
      have hi1:=Lib.iterAt_heap wr w2.heap.size c pos (pos+(Utf8.decode c pos).2) hit
      have hsz:w2.heap.size < (wr.iterAt w2.heap.size c (pos+(Utf8.decode c pos).2)).heap.size:=(Array.getElem?_eq_some_iff.1 hi1).1
      have G3:=kz ((oz HG).trans (hb1.mono hge2))
      have HI1:=kz hi1
      rw [show rn c pos=(Utf8.decode c pos).1 from rfl] at hrn
      clear hb1 hi1 hst hit HST HG hQ hno hnum hone
      rw [hrn] at hnx
      generalize wr.iterAt w2.heap.size c (pos+(Utf8.decode c pos).2)=w3 at *
      generalize lastQ T s pre.length=la at *
      by_cases hk:(pre.length:Int) > n
      ·go_wp2_with fail
       refine (known11 _).mono ?_
       rintro e wc ⟨rfl,hb⟩
       have Gc:=kz ((oz G3).trans (hb.mono (oz G3).size))
       clear hb G3
       go_wp2
       go_ret
       exact ⟨rfl,(oz HB1).trans ((oz Gc).mono (oz HB1).size)⟩
      ·have hnot:¬ (pre.length:Int) > n:=hk
       have hpl2:pre.length≤60:=by omega
       go_wp2_with fail
       have h:=zeL T (oz HH) s (by omega) (pre.length:Int) (by omega) B w3 (oz hBK w3 (oz G3))
       rw [oz HPV] at h
       refine h.mono ?_
       clear h
       rintro e w4 ⟨rfl,hb⟩
       rw [show zdp (some (p,m))=.tuple #[.agg #[.int .i64 p,.int .i64 m],.bool true] from rfl]
       have I4:=kz ((hb.block _ hsz).trans (oz HI1))
       have X4:=kz (Blk.new w4 #[.int .i64 p,.int .i64 m] 35)
       have I5:=kz ((Below.heap_alloc w4 (.cells #[.int .i64 p,.int .i64 m] 35) _ (Array.getElem?_eq_some_iff.1 (oz I4)).1).trans (oz I4))
       have G4:=kz (((oz G3).trans (hb.mono (oz G3).size)).alloc (by have:=(oz G3).size;have:=hb.size;omega) (.cells #[.int .i64 p,.int .i64 m] 35))
       have hw4:w3.heap.size≤w4.heap.size:=hb.size
       clear hb G3 HI1 I4
       have x0:=(oz X4).cell 0
       have x1:=(oz X4).cell 1
       have e1:¬ (p:Int) < (la:Int):=by omega
       have e2:¬ (p:Int) ≥ (s.size:Int):=by omega
       have e3:(la:Int)≤(p:Int):=by omega
       have e4:(p:Int)≤(s.size:Int):=by omega
       have e5:((p:Nat):Int).toNat=p:=by omega
       have e6:((la:Nat):Int).toNat=la:=by omega
       go_wp2_with fail
       generalize w4.alloc (.cells #[.int .i64 p,.int .i64 m] 35)=w5 at *
       have h:=zeI T (oz HH) (s.extract la p) (by rw [ByteArray.size_extract];omega) B w5 (oz hBK w5 (oz G4))
       rw [oz HNO] at h
       refine h.mono ?_
       clear h
       rintro e w6 ⟨rfl,hb⟩
       have I6:=kz ((hb.block _ (Array.getElem?_eq_some_iff.1 (oz I5)).1).trans (oz I5))
       have X6:=kz ((oz X4).below hb (oz X4).lt)
       have G6:=kz ((oz G4).trans (hb.mono (oz G4).size))
       clear hb G4 I5 X4 x0 x1
       have x0:=(oz X6).cell 0
       have x1:=(oz X6).cell 1
       go_wp2_with fail
       have h:=first_any (s.extract p s.size) (by rw [ByteArray.size_extract];unfold maxLen;omega) w6
       rw [oz HON] at h
       refine h.mono ?_
       clear h
       rintro e w7 ⟨rfl,hb⟩
       have I7:=kz ((hb.block _ (Array.getElem?_eq_some_iff.1 (oz I6)).1).trans (oz I6))
       have X7:=kz (((oz X6).below hb (oz X6).lt).alloc (.cells (zfv (zgJ s p)) 66))
       have Y7:=kz (Blk.new w7 (zfv (zgJ s p)) 66)
       have J7:=kz ((Below.heap_alloc w7 (.cells (zfv (zgJ s p)) 66) _ (Array.getElem?_eq_some_iff.1 (oz I7)).1).trans (oz I7))
       have G7:=kz (((oz G6).trans (hb.mono (oz G6).size)).alloc (by have:=(oz G6).size;have:=hb.size;omega) (.cells (zfv (zgJ s p)) 66))
       clear hb G6 I6 X6 x0 x1 I7
       go_wp2_with fail
       generalize w7.alloc (.cells (zfv (zgJ s p)) 66)=w8 at *
       have y0:=cell_regrown (show w8.cell? ⟨w7.heap.size,0,none⟩=some (.int .i32 (rn s p)) from (oz Y7).cell 0)
       have x0:=cell_regrown (show w8.cell? ⟨w4.heap.size,0,none⟩=some (.int .i64 p) from (oz X7).cell 0)
       have x1:=cell_regrown (show w8.cell? ⟨w4.heap.size,1,none⟩=some (.int .i64 m) from (oz X7).cell 1)
       have q1:((rn s p:Int) != (rn s p:Int))=false:=by simp
       have q2:((m:Int) != (m:Int))=false:=by simp
       have HCT:=kz (fun w =>zhN (s.extract 0 p) (by rw [ByteArray.size_extract];unfold maxLen;omega) w)
       rw [oz HNU] at HCT
       refine wp_region_quiet_below (by kernel_rfl) (by kernel_rfl) ?_
       repeat (go_big_quiet_step (exact Calls.regrown_of (oz HCT _)))
       first | refine wpQuiet_nil ?_ | skip
       rintro w' ⟨dq,rfl⟩
       have hbr:=below_regrown w8 dq.d dq.os
       generalize Go.Sort.grow (redrawn w8 dq.d) dq.os=w9 at *
       have I9:=kz ((hbr.block _ (Array.getElem?_eq_some_iff.1 (oz J7)).1).trans (oz J7))
       have X9:=(oz X7).below hbr (oz X7).lt
       have Y9:=(oz Y7).below hbr (oz Y7).lt
       have G9:=kz ((oz G7).trans (hbr.mono (oz G7).size))
       clear hbr G7 J7 X7 Y7 x0 x1 y0 HCT
       have x0:w9.cell? ⟨w4.heap.size,0,none⟩=some (.int .i64 p):=X9.cell 0
       have y1:w9.cell? ⟨w7.heap.size,1,none⟩=some (.int .i64 (wd s p)):=Y9.cell 1
       have HK1:=kz (show (pre.length:Int)+1=((pre.length+1:Nat):Int) by omega)
       have HPW:=kz hpw
       obtain ⟨d,hd⟩:∃ d,d=wd s p:=⟨_,rfl⟩
       rw [← hd] at y1 HLA HPW hpw
       obtain ⟨e0,he0⟩:∃ e0,e0=p+d:=⟨_,rfl⟩
       have hadd:(p:Int)+(d:Int)=(e0:Int):=by omega
       have hle0:e0≤1000000000:=by omega
       rw [← he0] at HLA HPW
       clear hd he0
       clear X9 Y9
       go_wp2_with fail
       have hwc:=zcW c pos
       have hlen:(pre++[pos]).length=pre.length+1:=by simp
       go_roundw
       case rel =>
        refine ⟨pre++[pos],pos+wd c pos,f, ?_, ?_,by rw [hlen];omega,by rw [hlen,oz HLA];exact oz HPW,kz (by rw [oz HS];simp),by omega,I9,G9⟩
        ·rw [hlen,oz HLA]
        ·rw [hlen]
         first | rfl | rw [oz HK1] | go_num
       case measure =>rw [za6 (oz I9),za6 (oz HIT)];simp only [wd] at hwc;omega
     ·have hnx:∀ ty,(Instr.next (.pointer (some ⟨w2.heap.size,0,none⟩)) true ty).run Tryz.prog wr=_:=fun ty =>Lib.run_next_end_at wr w2.heap.size c pos ty hit hp
      clear hit HST
      go_wp2_with fail
      refine (known11 _).mono ?_
      rintro e wc ⟨rfl,hb⟩
      have Gc:=kz ((oz HG).trans (hb.mono (oz HG).size))
      clear hb HG
      go_wp2
      go_ret
      exact ⟨rfl,(oz HB1).trans ((oz Gc).mono (oz HB1).size)⟩
theorem places11 (T:TV) (hT:TabB T∧TabI T) (a0 a1 a2 a3 a4 a5 a6 a7:Option Addr) (c0 c1 c2 c3 c4 c5 c6 c7:Nat) (us:List Value) (s:ByteArray) (hs:s.size≤1048576) (n:Int) (W:World) (hA:TabIn W T a0 a1 a2 a3 a4 a5 a6 a7 us) :
  Calls Tryz.prog 8 #[.agg (tabV T a0 a1 a2 a3 a4 a5 a6 a7 c0 c1 c2 c3 c4 c5 c6 c7),.string s,.int .i64 n] W fun e w' =>e=.returned (.bool true)∧Below W.heap.size W w' :=
 places_tb T hT.1 hT.2 ⟨a0,a1,a2,a3,a4,a5,a6,a7,c0,c1,c2,c3,c4,c5,c6,c7,us⟩ s (by omega) n W hA
end Go.Proofs.YtoaiicbicdhkkaaGreat
