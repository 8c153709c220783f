/- Texts of this claim, one behind the other. -/
import Derived.Test.YtoaiicbicdhkkaaGreatXb
/- StripOnce: a strip is valid and its own strip. -/
namespace Go.Proofs.YtoaiicbicdhkkaaGreat
open Go.RowKit Go.Shelf Go.Maps
set_option linter.unusedVariables false
theorem spN_fst (s:ByteArray):(spN s).map Prod.fst=zav s:=by unfold spN;simp
theorem rnsQ_all (s:ByteArray):rnsQ s (spN s)=zah s:=by
  unfold zah rnsQ
  rw [← spN_fst s,List.map_map]
  rfl
theorem spN_mem {s:ByteArray} {x:Nat × Nat} (h:x ∈ spN s):x.1 ∈ zav s:=by rw [← spN_fst s];exact List.mem_map.2 ⟨x,h,rfl⟩
theorem rnsQ_rune (s:ByteArray) (l:List (Nat × Nat)):∀ z ∈ rnsQ s l,zaw z≠0:=by
  intro z hz
  obtain ⟨x,_,rfl⟩:=List.mem_map.1 hz
  exact zkQ s x.1
theorem strip_runes (T:TV) (s:ByteArray):zah (zd2 T s)=rnsQ s (zbi T s):=(runes_back _ (rnsQ_rune s _)).1
theorem strip_good (T:TV) (s:ByteArray):∀ i ∈ zav (zd2 T s),zfc (zd2 T s) i=false:=(runes_back _ (rnsQ_rune s _)).2
theorem strip_count (T:TV) (s:ByteArray):(zav (zd2 T s)).length=(zbi T s).length:=by
  rw [← zbr,strip_runes]
  simp
theorem strip_size (T:TV) (s:ByteArray):(zd2 T s).size≤4*s.size:=by
  have h1:=runesBytes_size_le (rnsQ s (zbi T s))
  have h2:=zaL s
  have h3:=zfx T s
  rw [List.length_map] at h1
  unfold zd2
  omega
theorem strip_seen (T:TV) (s:ByteArray):zbi T (zd2 T s)=spN (zd2 T s):=by
  unfold zbi
  refine List.filter_eq_self.2 fun x hx =>?_
  have h1:((rn (zd2 T s) x.1:Nat):Int) ∈ zah (zd2 T s):=List.mem_map.2 ⟨x.1,spN_mem hx,rfl⟩
  rw [strip_runes] at h1
  obtain ⟨y,hy,he⟩:=List.mem_map.1 h1
  have h2:=(List.mem_filter.1 hy).2
  unfold zcP at h2 ⊢
  rw [← he]
  exact h2
theorem strip_twice (T:TV) (s:ByteArray):zd2 T (zd2 T s)=zd2 T s:=by
  have h:=clean_valid (zd2 T s) (strip_good T s)
  unfold cleanV at h
  rw [show zd2 T (zd2 T s)=runesBytes (rnsQ (zd2 T s) (zbi T (zd2 T s))) from rfl,strip_seen,rnsQ_all]
  exact h
theorem strip_valid (T:TV) (s:ByteArray):validV (zd2 T s)=.tuple #[.agg #[.int .i64 0,.int .i64 0],.bool true]:=validFrom_none _ _ 0 (strip_good T s)
theorem strip_zero (T:TV) (s:ByteArray):(zav (zd2 T s)).length - (zbi T (zd2 T s)).length=0:=by
  rw [strip_seen]
  unfold spN
  simp
theorem first_iff (T:TV) (s:ByteArray):zfN T s=none ↔ zd2 T s=s:=by
  constructor
  · intro h
    unfold zfN at h
    rw [List.find?_eq_none] at h
    have hb:∀ i ∈ zav s,ziA T s i=false:=by
      intro i hi
      rw [← spN_fst s] at hi
      obtain ⟨x,hx,rfl⟩:=List.mem_map.1 hi
      have:=h x hx
      simpa using this
    have hs:zbi T s=spN s:=by
      unfold zbi
      refine List.filter_eq_self.2 fun x hx =>?_
      have:=hb x.1 (spN_mem hx)
      unfold ziA at this
      unfold zcP
      cases hd:drB T (rn s x.1)
      · rfl
      · rw [hd,Bool.or_true] at this
        cases this
    have hv:=clean_valid s (fun i hi =>by
      have:=hb i hi
      unfold ziA at this
      cases hd:zfc s i
      · rfl
      · rw [hd] at this
        cases this)
    unfold zd2
    rw [hs,rnsQ_all]
    exact hv
  · intro h
    refine ziG fun i hi =>?_
    have h1:=strip_good T s i (by rw [h];exact hi)
    rw [h] at h1
    have h2:=strip_seen T s
    rw [h] at h2
    rw [← spN_fst s] at hi
    obtain ⟨x,hx,rfl⟩:=List.mem_map.1 hi
    rw [← h2] at hx
    have h3:=(List.mem_filter.1 hx).2
    unfold zcP at h3
    unfold ziA
    rw [h1]
    simpa using h3
theorem toList_eq {a b:ByteArray} (h:a.toList=b.toList):a=b:=by
  rw [ByteArray.toList_eq,ByteArray.toList_eq] at h
  exact ByteArray.ext (Array.toList_inj.1 h)
/-- First's answer beside the strip. -/
theorem first_is (T:TV) (s:ByteArray):∃ x y:Int,zdp (zfN T s)=.tuple #[.agg #[.int .i64 x,.int .i64 y],.bool (!((zd2 T s).toList == s.toList))]:=by
  cases h:zfN T s with
  | none =>
    have h1:=(first_iff T s).1 h
    exact ⟨0,0,by rw [h1];simp [zdp]⟩
  | some x =>
    refine ⟨x.1,x.2, ?_⟩
    have h1:((zd2 T s).toList == s.toList)=false:=by
      rw [beq_eq_false_iff_ne]
      intro e
      have:=(first_iff T s).2 (toList_eq e)
      rw [h] at this
      cases this
    rw [h1]
    rfl
end Go.Proofs.YtoaiicbicdhkkaaGreat
/- StripOnce, walked. -/
namespace Go.Proofs.YtoaiicbicdhkkaaGreat
open Go.RowKit Go.Shelf Go.Maps
set_option linter.unusedVariables false
set_option maxRecDepth 100000 in
set_option maxHeartbeats 8000000 in
theorem once_tb (T:TV) (hT:TabB T) (hI:TabI T) (A:TbA) (s:ByteArray) (hs:s.size≤1000000000) (W:World) (hA:zhe W T A) :
    Calls Tryz.prog 6 #[.agg #[.slice A.a0 T.sc.length A.c0,.slice A.a1 T.co.length A.c1,.slice A.a2 T.ma.length A.c2,.slice A.a3 T.pr.length A.c3,.slice A.a4 T.fo.length A.c4,.slice A.a5 T.lk.length A.c5,.slice A.a6 T.dr.length A.c6,.slice A.a7 T.al.length A.c7],.string s] W fun e w' =>e=.returned (.bool true)∧Below W.heap.size W w':=by
  have hmx:Tryz.prog.follows .mixedOrders=true:=by kernel_rfl
  have HX:=kz (TbX.start hA)
  have HC:=kz (of_any T hT hI _ _ (TbX.start hA).tv)
  clear hA hT hI
  go_enter Tryz.func6,Tryz.ntmps6
  have z0:=(oz HX).z0
  have z1:=(oz HX).z1
  have z2:=(oz HX).z2
  have z3:=(oz HX).z3
  have z4:=(oz HX).z4
  have z5:=(oz HX).z5
  have z6:=(oz HX).z6
  have z7:=(oz HX).z7
  have HW0:=kz (oz HX).bl
  go_wp2_with fail
  generalize W.alloc (.cells #[.slice A.a0 T.sc.length A.c0,.slice A.a1 T.co.length A.c1,.slice A.a2 T.ma.length A.c2,.slice A.a3 T.pr.length A.c3,.slice A.a4 T.fo.length A.c4,.slice A.a5 T.lk.length A.c5,.slice A.a6 T.dr.length A.c6,.slice A.a7 T.al.length A.c7] 31)=w0 at *
  refine (oz HC).mono ?_
  rintro e w1 ⟨p,rfl,hV⟩
  have HB1:=kz ((oz HW0).trans (hV.bl.mono (oz HW0).size))
  clear HC z0 z1 z2 z3 z4 z5 z6 z7 HX HW0
  cases hu:upB T with
  | false =>
    clear hV hu
    go_wp2_with fail
    refine (known11 w1).mono ?_
    rintro e w2 ⟨rfl,hb⟩
    have HB2:=kz ((oz HB1).trans (hb.mono (oz HB1).size))
    clear hb HB1
    go_wp2
    go_ret
    exact ⟨rfl,oz HB2⟩
  | true =>
    obtain ⟨_,hO,B,rfl,hB,hbk⟩:=hV.ok hu
    have hcs:=strip_size T s
    have H1:=kz (zeI T hO s (by omega) B w1 hbk)
    have hBK:=kz (fun w (h:Below w1.heap.size w1 w) =>hbk.below h)
    have HH:=kz hO
    obtain ⟨fx,fy,hfi⟩:=first_is T s
    have HFI:=kz hfi
    have HCN:=kz (strip_count T s)
    have HZE:=kz (strip_zero T s)
    have HTW:=kz (strip_twice T s)
    have HVA:=kz (strip_valid T s)
    have hsm:s.size≤maxLen:=by unfold maxLen;omega
    have hse:=zfx T s
    have hst:=zaL s
    have HSA:=kz (show zkM T s (zd2 T s)=true by unfold zkM;rw [strip_twice];simp)
    have HSS:=kz (show zkM T s s=true by unfold zkM;simp)
    obtain ⟨c,hc⟩:∃ c,c=zd2 T s:=⟨_,rfl⟩
    rw [← hc] at H1 hcs HFI HCN HZE HTW HVA HSA
    clear hV hu hfi hbk hc
    have hcm:c.size≤maxLen:=by unfold maxLen;omega
    have G1:=kz (Below.refl w1.heap.size w1)
    go_wp2_with fail
    refine (oz H1).mono ?_
    rintro e w2 ⟨rfl,hb⟩
    have G2:=kz ((oz G1).trans hb)
    clear hb G1 H1
    go_wp2_with fail
    have h:=valid_any c hcm w2
    rw [oz HVA] at h
    refine h.mono ?_
    clear h
    rintro e w3 ⟨rfl,hb⟩
    have G3:=kz (((oz G2).trans (hb.mono (oz G2).size)).alloc (by have:=(oz G2).size;have:=hb.size;omega) (.cells #[.int .i64 0,.int .i64 0] 35))
    clear hb G2
    go_wp2_with fail
    generalize w3.alloc (.cells #[.int .i64 0,.int .i64 0] 35)=x3 at *
    have h:=zjV T (oz HH) s (by omega) B x3 (oz hBK x3 (oz G3))
    rw [oz HFI] at h
    refine h.mono ?_
    clear h
    rintro e w4 ⟨rfl,hb⟩
    have G4:=kz (((oz G3).trans (hb.mono (oz G3).size)).alloc (by have:=(oz G3).size;have:=hb.size;omega) (.cells #[.int .i64 fx,.int .i64 fy] 35))
    clear hb G3
    obtain ⟨q,hq⟩:∃ q,(c.toList == s.toList)=q:=⟨_,rfl⟩
    rw [hq]
    have hqq:((!q) == (!q))=true:=by cases q <;> rfl
    go_wp2_with fail
    generalize w4.alloc (.cells #[.int .i64 fx,.int .i64 fy] 35)=x4 at *
    have h:=zeI T (oz HH) c (by omega) B x4 (oz hBK x4 (oz G4))
    rw [oz HTW] at h
    refine h.mono ?_
    clear h
    rintro e w5 ⟨rfl,hb⟩
    have G5:=kz ((oz G4).trans (hb.mono (oz G4).size))
    clear hb G4
    go_wp2_with fail
    have h:=zjZ T (oz HH) c hcm B w5 (oz hBK w5 (oz G5))
    rw [oz HZE] at h
    refine h.mono ?_
    clear h
    rintro e w6 ⟨rfl,hb⟩
    have G6:=kz ((oz G5).trans (hb.mono (oz G5).size))
    clear hb G5
    go_wp2_with fail
    have h:=zhN c hcm w6
    rw [oz HCN] at h
    refine h.mono ?_
    clear h
    rintro e w7 ⟨rfl,hb⟩
    have G7:=kz ((oz G6).trans (hb.mono (oz G6).size))
    clear hb G6
    go_wp2_with fail
    refine (zjZ T (oz HH) s hsm B w7 (oz hBK w7 (oz G7))).mono ?_
    rintro e w8 ⟨rfl,hb⟩
    have G8:=kz ((oz G7).trans (hb.mono (oz G7).size))
    clear hb G7
    have hsum:((zbi T s).length:Int)+(((zav s).length - (zbi T s).length:Nat):Int)=((zav s).length:Int):=by omega
    have HCS:=kz (zhN s hsm w8)
    have hsb:(zav s).length≤1000000000:=by omega
    generalize ((zav s).length - (zbi T s).length:Nat)=u1 at *
    generalize (zbi T s).length=u2 at *
    generalize (zav s).length=u3 at *
    go_wp2_with fail
    refine (oz HCS).mono ?_
    rintro e w9 ⟨rfl,hb⟩
    have G9:=kz ((oz G8).trans (hb.mono (oz G8).size))
    clear hb G8 HCS
    go_wp2_with fail
    have h:=zhn T (oz HH) s c (by omega) (by omega) B w9 (oz hBK w9 (oz G9))
    rw [oz HSA] at h
    refine h.mono ?_
    clear h
    rintro e wa ⟨rfl,hb⟩
    have Ga:=kz ((oz G9).trans (hb.mono (oz G9).size))
    clear hb G9
    go_wp2_with fail
    have h:=zhn T (oz HH) s s (by omega) (by omega) B wa (oz hBK wa (oz Ga))
    rw [oz HSS] at h
    refine h.mono ?_
    clear h
    rintro e wb ⟨rfl,hb⟩
    have Gb:=kz ((oz Ga).trans (hb.mono (oz Ga).size))
    clear hb Ga
    go_wp2_with fail
    refine (known11 wb).mono ?_
    rintro e wc ⟨rfl,hb⟩
    have Gc:=kz ((oz Gb).trans (hb.mono (oz Gb).size))
    clear hb Gb
    go_wp2
    go_ret
    exact ⟨rfl,(oz HB1).trans ((oz Gc).mono (oz HB1).size)⟩
theorem once11 (T:TV) (hT:TabB T∧TabI T) (a0 a1 a2 a3 a4 a5 a6 a7:Option Addr) (c0 c1 c2 c3 c4 c5 c6 c7:Nat) (us:List Value) (s:ByteArray) (hs:s.size≤1048576) (W:World) (hA:TabIn W T a0 a1 a2 a3 a4 a5 a6 a7 us) :
    Calls Tryz.prog 6 #[.agg (tabV T a0 a1 a2 a3 a4 a5 a6 a7 c0 c1 c2 c3 c4 c5 c6 c7),.string s] W fun e w' =>e=.returned (.bool true)∧Below W.heap.size W w' :=
  once_tb T hT.1 hT.2 ⟨a0,a1,a2,a3,a4,a5,a6,a7,c0,c1,c2,c3,c4,c5,c6,c7,us⟩ s (by omega) W hA
end Go.Proofs.YtoaiicbicdhkkaaGreat
