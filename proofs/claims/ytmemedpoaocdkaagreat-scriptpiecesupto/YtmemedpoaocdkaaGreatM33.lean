/- Texts of this claim, one behind the other. -/
import Derived.Test.YtmemedpoaocdkaaGreatM32
import Derived.Test.YtmemedpoaocdkaaGreatM31
import Derived.Test.YtmemedpoaocdkaaGreatM2
import Derived.RangeFuncBox
/- script's own: what a spot is bound to; ties. -/
namespace Go.Proofs.YtmemedpoaocdkaaGreat
open Go.RowKit Go.Shelf Go.Maps
set_option linter.unusedVariables false
theorem zcN {T:World} {lo b i E sz n:Nat} {v:Value} {xs:List Value} (h:T.ownsRow lo E sz v n xs) (hb:b < lo) (u:Value):(T.setCell ⟨b,i,none⟩ u).ownsRow lo E sz v n xs:=by
 refine h.kept (zau T ⟨b,i,none⟩ u) ?_
 cases hv:v.ownBlock with
 | none =>exact .inl rfl
 | some k =>exact .inr (fun e =>by have:=(h.lt k hv).1;simp at e;omega)
set_option maxRecDepth 100000 in
set_option maxHeartbeats 4000000 in
theorem zch {T:TV} (hO:zam T) (B:Nat) (W:World) (h:BookAt W B T):Calls Tryz.prog 47 #[.pointer (some ⟨B,0,none⟩)] W fun e w' => ∃ v,e=.returned (.agg #[v,.bool false])∧w'.ownsRow W.heap.size 3 1 v (List.range T.sc.length).length ((List.range T.sc.length).map zaP)∧Below W.heap.size W w':=by
 obtain ⟨i0,hi,hz0,hz1,hz2⟩:=info_parts zb0
 have hL:=hO.l0
 have r0:=(Blk.new W #[.slice none 0 0,.bool false] 96).alloc (.cells #[.slice none 0 0,.bool false] 96)
 have t0:=Blk.new (W.alloc (.cells #[.slice none 0 0,.bool false] 96)) #[.slice none 0 0,.bool false] 96
 have hb0:=((Below.refl W.heap.size W).alloc (Nat.le_refl _) (.cells #[.slice none 0 0,.bool false] 96)).alloc (by simp) (.cells #[.slice none 0 0,.bool false] 96)
 have hz:((W.alloc (.cells #[.slice none 0 0,.bool false] 96)).alloc (.cells #[.slice none 0 0,.bool false] 96)).heap.size=W.heap.size+2:=by simp
 have HC:=kz (zcF hO B _ (h.below (hb0)))
 simp only [World.size_alloc] at t0
 have HR:=kz r0
 have HT:=kz t0
 have HB:=kz hb0
 clear r0 t0 hb0 h hO
 go_enter Tryz.func47,Tryz.ntmps47
 go_wp2_with fail
 generalize (W.alloc (.cells #[.slice none 0 0,.bool false] 96)).alloc (.cells #[.slice none 0 0,.bool false] 96)=w0 at *
 refine (oz HC).mono ?_
 rintro e w1 ⟨v,rfl,hown,hb⟩
 obtain ⟨a,c,rfl⟩:=zag hown
 have hge:=hb.size
 have HR1:=kz ((oz HR).below hb (by omega))
 have HT1:=kz ((oz HT).below hb (by omega))
 have HB1:=kz ((oz HB).trans (hb.mono (by omega)))
 have hge1:W.heap.size+2≤w1.heap.size:=by omega
 clear hown hb HR HT HB HC hge hz
 go_wp2_with fail
 go_loopw [4,8] (fun _ s8 wr => ∃ (k:Nat) (v:Value),k≤T.sc.length∧s8=.int .i64 k∧Hz (wr.ownsRow w1.heap.size 3 1 v (List.range k).length ((List.range k).map zaP))∧Hz (Blk wr W.heap.size #[.slice none 0 0,.bool false] 96)∧Hz (Blk wr (W.heap.size+1) #[v,.bool false] 96)∧Hz (Below W.heap.size W wr)∧w1.heap.size≤wr.heap.size) (fun _ s8 _ =>T.sc.length - (intOf s8).toNat)
 case atStart =>exact ⟨0,_,Nat.zero_le _,rfl,kz (World.ownsRow_nil _ _ _ _),HR1,HT1,HB1,Nat.le_refl _⟩
 case round =>
  obtain ⟨k,v,hk,rfl,HQ,HR,HT,HB,hge⟩:=hrel
  by_cases hkn:k < T.sc.length
  ·have hk1:(k:Int) < (T.sc.length:Int):=by omega
   have t0:=(oz HT).cell 0
   have tf:=(oz HT).frozen
   have hrl:((List.range k).map zaP).length=k:=by simp
   go_wp2_with (at_builtin;refine zbP rfl _ _ 36 3 rfl i0 _ 8 Tryz.underlying36 hi hz0 hz1 hz2 rfl (by decide) w1.heap.size v ((List.range k).map zaP) (zaP k) rfl (by rw [hrl];omega) wr rfl rfl (by rw [hrl];have:=oz HQ;rwa [List.length_range] at this) hge _ rfl rfl ?_)
   intro v' w3 ho hb
   try rw [show ((List.range k).map zaP++[zaP k]).length=k+1 by simp] at ho
   obtain ⟨a',c',rfl⟩:=zag ho
   have HR3:=kz ((oz HR).below hb (by omega))
   have HT3:=kz ((oz HT).below hb (by omega))
   have HB3:=kz ((oz HB).trans (hb.mono (by omega)))
   have hs3:=hb.size
   have t3:=(oz HT3).cell 0
   have tf3:=(oz HT3).frozen
   have HO3:Hz ((w3.setCell ⟨W.heap.size+1,0,none⟩ (.slice a' (k+1) c')).ownsRow w1.heap.size 3 1 (.slice a' (k+1) c') (List.range (k+1)).length ((List.range (k+1)).map zaP)):=kz (by
    have:=zcN (i:=0) (b:=W.heap.size+1) ho (by omega) (.slice a' (k+1) c')
    rw [List.range_succ,List.map_append,List.length_append,List.map_singleton]
    first | exact this | simpa using this)
   have HR4:=kz ((oz HR3).other (i:=0) (B':=W.heap.size+1) (by omega) (.slice a' (k+1) c'))
   have HT4:=kz ((oz HT3).set 0 (.slice a' (k+1) c'))
   have HB4:=kz ((oz HB3).setCell (p:=⟨W.heap.size+1,0,none⟩) (by simp) (.slice a' (k+1) c'))
   have hs4:w1.heap.size≤(w3.setCell ⟨W.heap.size+1,0,none⟩ (.slice a' (k+1) c')).heap.size:=by have:=(KeepsWalks.setCell w3 ⟨W.heap.size+1,0,none⟩ (.slice a' (k+1) c')).size;omega
   clear ho hb t0 tf HQ HR HT HB HR3 HT3 HB3
   go_wp2_with fail
   exact ⟨⟨k+1,.slice a' (k+1) c',by omega,by go_num,HO3,HR4,HT4,HB4,hs4⟩,by simp [intOf];omega⟩
  ·have hk1:¬ (k:Int) < (T.sc.length:Int):=by omega
   obtain rfl:k=T.sc.length:=by omega
   obtain ⟨av,cv,rfl⟩:=zag (oz HQ)
   rw [List.length_range] at *
   have t0:=(oz HT).cell 0
   have t1:=(oz HT).cell 1
   have r0:=(oz HR).cell 0
   have r1:=(oz HR).cell 1
   have rf:=(oz HR).frozen
   go_wp2_with fail
   have q:=((oz HR).set 0 (.slice av T.sc.length cv)).set 1 (.bool false)
   have c0:=q.cell 0
   have c1:=q.cell 1
   refine bodyPost_ret (v := .agg #[.slice av T.sc.length cv,.bool false]) (by simp [results,Tryz.f47,go_sem,c0,c1]) rfl ⟨.slice av T.sc.length cv,rfl, ?_, ?_⟩
   ·exact zaE (zcN (zcN (oz HQ) (by omega) _) (by omega) _) (by omega)
   ·exact ((oz HB).setCell (p:=⟨W.heap.size,0,none⟩) (by simp) _).setCell (p:=⟨W.heap.size,1,none⟩) (by simp) _
theorem ze4 (T:TV) (x:Int × Bool):zcV (bdX T x):=by
 unfold bdX
 split
 ·intro i j a b _ h
  simp at h
 ·exact zcM _
theorem zhH (T:TV) (x:Int × Bool):(bdX T x).length≤T.sc.length:=by
 unfold bdX
 split
 ·simp
 ·unfold zdn
  refine Nat.le_trans (List.length_filter_le _ _) ?_
  rw [List.length_range]
  exact Nat.le_refl _
set_option maxRecDepth 100000 in
set_option maxHeartbeats 4000000 in
theorem zdx {T:TV} (hO:zam T) (B:Nat) (r wd:Int) (bad:Bool) (hr:R32 r) (W:World) (h:BookAt W B T):Calls Tryz.prog 68 #[.pointer (some ⟨B,0,none⟩),.agg #[.int .i32 r,.int .i64 wd,.bool bad]] W fun e w' => ∃ v,e=.returned (.tuple #[v,.bool (zba T (r,bad))])∧w'.ownsRow W.heap.size 3 1 v (bdX T (r,bad)).length ((bdX T (r,bad)).map zaP)∧Below W.heap.size W w':=by
 have hb0:=(Below.refl W.heap.size W).alloc (Nat.le_refl _) (.cells #[.int .i32 r,.int .i64 wd,.bool bad] 70)
 have hx0:=Blk.new W #[.int .i32 r,.int .i64 wd,.bool bad] 70
 have HB0:=kz hb0
 have HX0:=kz hx0
 have HC:=kz (fun w1 (hb:Below W.heap.size W w1) =>ze1 hO B r w1 (h.below hb))
 have HK:=kz (fun w1 (hb:Below W.heap.size W w1) =>zcg hO B r hr w1 (h.below hb))
 have HS:=kz (fun w1 (hb:Below W.heap.size W w1) =>zcv hO B r w1 (h.below hb))
 have hlt0:=hx0.lt
 clear h hb0 hx0
 cases bad with
 | true =>
  have hf:zba T (r,true)=false:=rfl
  have hd:bdX T (r,true)=[]:=rfl
  rw [hf,hd]
  have x2:=(oz HX0).cell 2
  clear HC HK HS HX0 hf hd
  go_enter Tryz.func68,Tryz.ntmps68
  go_wp2_with fail
  exact bodyPost_ret (results_tmp2 Tryz.results68 _ _ _) rfl ⟨_,rfl,World.ownsRow_nil _ _ _ _,oz HB0⟩
 | false =>
  go_enter Tryz.func68,Tryz.ntmps68
  have x0:=(oz HX0).cell 0
  have x2:=(oz HX0).cell 2
  go_wp2_with fail
  generalize W.alloc (.cells #[.int .i32 r,.int .i64 wd,.bool false] 70)=w0 at *
  refine (oz HC w0 (oz HB0)).mono ?_
  rintro e w1 ⟨rfl,hb⟩
  have HB1:=kz ((oz HB0).trans (hb.mono (oz HB0).size))
  have HX1:=kz ((oz HX0).below hb hlt0)
  clear hb HC HX0 HB0 x0 x2
  cases hco:zan T.co r with
  | true =>
   have hfr:zba T (r,false)=true:=by unfold zba;rw [hco];rfl
   have HBD:=kz (show bdX T (r,false)=[] by unfold bdX;rw [hfr];rfl)
   have HFR:=kz hfr
   clear hfr hco HK HS
   go_wp2_with fail
   exact bodyPost_ret (results_tmp2 Tryz.results68 _ _ _) rfl ⟨.slice none 0 0,by rw [oz HFR];rfl,by rw [oz HBD];exact World.ownsRow_nil _ _ _ _,oz HB1⟩
  | false =>
   have HCO:=kz hco
   have x0:=(oz HX1).cell 0
   have HKC:=kz (oz HK w1 (oz HB1))
   clear hco HK
   go_wp2_with fail
   refine (oz HKC).mono ?_
   rintro e w2 ⟨rfl,rfl⟩
   clear HKC
   by_cases hc:0 < zbk T r
   ·have hfr:zba T (r,false)=true:=by unfold zba;rw [oz HCO,decide_eq_true hc];rfl
    have HBD:=kz (show bdX T (r,false)=[] by unfold bdX;rw [hfr];rfl)
    have HFR:=kz hfr
    have hc2:zbk T r > 0:=hc
    clear hfr HS
    go_wp2_with fail
    exact bodyPost_ret (results_tmp2 Tryz.results68 _ _ _) rfl ⟨.slice none 0 0,by rw [oz HFR];rfl,by rw [oz HBD];exact World.ownsRow_nil _ _ _ _,oz HB1⟩
   ·have hfr:zba T (r,false)=false:=by unfold zba;rw [oz HCO,decide_eq_false hc];rfl
    have HBD:=kz (show bdX T (r,false)=zdn T r by unfold bdX;rw [hfr];rfl)
    have HFR:=kz hfr
    have hc2:¬ zbk T r > 0:=hc
    have HSC:=kz (oz HS w2 (oz HB1))
    clear hfr HS
    go_wp2_with fail
    refine (oz HSC).mono ?_
    rintro e w3 ⟨v,rfl,ho,hb⟩
    have HF:=kz (And.intro (zaE ho (oz HB1).size) ((oz HB1).trans (hb.mono (oz HB1).size)))
    clear ho hb HSC x0
    go_wp2_with fail
    exact bodyPost_ret (results_tmp2 Tryz.results68 _ _ _) rfl ⟨v,by rw [oz HFR];rfl,by rw [oz HBD];exact (oz HF).1,(oz HF).2⟩
set_option maxRecDepth 100000 in
set_option maxHeartbeats 4000000 in
theorem zdD {T:TV} (hO:zam T) (B:Nat) (v:Value) (l:List Nat) (bd:Bool) (r wd:Int) (bad:Bool) (hr:R32 r) (hl:l.length≤900000) (hv:∀ n ∈ l,n≤1048576) (lo:Nat) (W:World) (h:BookAt W B T) (ho:W.ownsRow lo 3 1 v l.length (l.map zaP)) (hlo:lo≤W.heap.size) :
  Calls Tryz.prog 48 #[.agg #[v,.bool bd],.pointer (some ⟨B,0,none⟩),.agg #[.int .i32 r,.int .i64 wd,.bool bad]] W fun e w' => ∃ v',e=.returned (.agg #[v',.bool (zdR T (l,bd) (r,bad)).2])∧w'.ownsRow lo 3 1 v' (zdR T (l,bd) (r,bad)).1.length ((zdR T (l,bd) (r,bad)).1.map zaP)∧Below W.heap.size W w'∧∀ g,v'.ownBlock=some g→v.ownBlock=some g∨W.heap.size≤g:=by
 have hL:=hO.l0
 have hbl:=zhH T (r,bad)
 obtain ⟨a,c,rfl⟩:=zag ho
 have t0:=((Blk.new W #[.slice a l.length c,.bool bd] 96).alloc (.cells #[.int .i32 r,.int .i64 wd,.bool bad] 70)).alloc (.cells #[.slice none 0 0,.bool false] 96)
 have x0:=(Blk.new (W.alloc (.cells #[.slice a l.length c,.bool bd] 96)) #[.int .i32 r,.int .i64 wd,.bool bad] 70).alloc (.cells #[.slice none 0 0,.bool false] 96)
 have r0:=Blk.new ((W.alloc (.cells #[.slice a l.length c,.bool bd] 96)).alloc (.cells #[.int .i32 r,.int .i64 wd,.bool bad] 70)) #[.slice none 0 0,.bool false] 96
 have hb0:=(((Below.refl W.heap.size W).alloc (Nat.le_refl _) (.cells #[.slice a l.length c,.bool bd] 96)).alloc (by simp) (.cells #[.int .i32 r,.int .i64 wd,.bool bad] 70)).alloc (by simp;omega) (.cells #[.slice none 0 0,.bool false] 96)
 have hz:(((W.alloc (.cells #[.slice a l.length c,.bool bd] 96)).alloc (.cells #[.int .i32 r,.int .i64 wd,.bool bad] 70)).alloc (.cells #[.slice none 0 0,.bool false] 96)).heap.size=W.heap.size+3:=by simp
 simp only [World.size_alloc] at x0 r0
 have HT:=kz t0
 have HR:=kz r0
 have HB:=kz hb0
 have HO:=kz ho
 have HX:=kz x0
 have HC:=kz (zdx hO B r wd bad hr _ (h.below hb0))
 have HRS:=kz (ze4 T (r,bad))
 have HV:=kz hv
 clear t0 r0 hb0 ho h hO hv x0
 have HE:Hz (zdR T (l,bd) (r,bad)=if zba T (r,bad) then (l,bd) else (l.filter (fun n =>(bdX T (r,bad)).contains n),true)):=kz rfl
 generalize zdR T (l,bd) (r,bad)=tx at *
 go_enter Tryz.func48,Tryz.ntmps48
 have x0:=(oz HX).cell 0
 have x1:=(oz HX).cell 1
 have x2:=(oz HX).cell 2
 go_wp2_with fail
 generalize ((W.alloc (.cells #[.slice a l.length c,.bool bd] 96)).alloc (.cells #[.int .i32 r,.int .i64 wd,.bool bad] 70)).alloc (.cells #[.slice none 0 0,.bool false] 96)=w0 at *
 refine (oz HC).mono ?_
 rintro e w1 ⟨u,rfl,hu,hb⟩
 obtain ⟨a2,c2,rfl⟩:=zag hu
 have hsz:=hb.size
 have HT1:=kz ((oz HT).below hb (by omega))
 have HR1:=kz ((oz HR).below hb (by omega))
 have HB1:=kz ((oz HB).trans (hb.mono (by omega)))
 have HU:=kz hu
 clear hb HT HR HB HC x0 x1 x2 HX hu
 generalize bdX T (r,bad)=bs at *
 cases hfr:zba T (r,bad) with
 | true =>
  rw [hfr] at HE
  have he:tx=(l,bd):=oz HE
  subst he
  have t0:=(oz HT1).cell 0
  have t1:=(oz HT1).cell 1
  have r0:=(oz HR1).cell 0
  have r1:=(oz HR1).cell 1
  have rf:=(oz HR1).frozen
  clear hfr HE
  go_wp2_with fail
  have q:=((oz HR1).set 0 (.slice a l.length c)).set 1 (.bool bd)
  have c0:=q.cell 0
  have c1:=q.cell 1
  have hbf:=((oz HB1).setCell (p:=⟨W.heap.size+1+1,0,none⟩) (by simp;omega) (.slice a l.length c)).setCell (p:=⟨W.heap.size+1+1,1,none⟩) (by simp;omega) (.bool bd)
  refine bodyPost_ret (v := .agg #[.slice a l.length c,.bool bd]) (by simp [results,Tryz.f48,go_sem,c0,c1]) rfl ⟨_,rfl,zal (oz HO) hbf,hbf,fun g hg =>.inl hg⟩
 | false =>
  rw [hfr] at HE
  have he:tx=(zbw l bs,true):=oz HE
  subst he
  have t0:=(oz HT1).cell 0
  have HBC:=kz (zfZ a a2 c c2 l bs hl (by omega) (oz HRS) (oz HV) w1 (zaG (zal (oz HO) (oz HB1))) (zaG (oz HU)))
  clear hfr HE HRS HV
  go_wp2_with fail
  refine (oz HBC).mono ?_
  rintro e w2 ⟨v',rfl,hv',hb⟩
  obtain ⟨a3,c3,rfl⟩:=zag hv'
  have hsz2:=hb.size
  have HR2:=kz ((oz HR1).below hb (by omega))
  have HB2:=kz ((oz HB1).trans (hb.mono (by omega)))
  have HV2:=kz hv'
  have r0:=(oz HR2).cell 0
  have r1:=(oz HR2).cell 1
  have rf:=(oz HR2).frozen
  clear hb hv' HBC HR1 HB1 HT1 t0 HU HO
  go_wp2_with fail
  have q:=((oz HR2).set 0 (.slice a3 (zbw l bs).length c3)).set 1 (.bool true)
  have c0:=q.cell 0
  have c1:=q.cell 1
  have hbf:=((oz HB2).setCell (p:=⟨W.heap.size+1+1,0,none⟩) (by simp;omega) (.slice a3 (zbw l bs).length c3)).setCell (p:=⟨W.heap.size+1+1,1,none⟩) (by simp;omega) (.bool true)
  refine bodyPost_ret (v := .agg #[(.slice a3 (zbw l bs).length c3),.bool true]) (by simp [results,Tryz.f48,go_sem,c0,c1]) rfl ⟨_,rfl, ?_,hbf,fun g hg =>.inr ?_⟩
  ·exact zaE (zcN (zcN (oz HV2) (by omega) _) (by omega) _) (by omega)
  ·have:=((oz HV2).lt g hg).1
   omega
theorem zeN (v:Value) (l:List Nat) (bd:Bool) (W:World) (lo:Nat) (ho:W.ownsRow lo 3 1 v l.length (l.map zaP)) (hl:l.length≤900000) :
  Calls Tryz.prog 49 #[.agg #[v,.bool bd]] W fun e w' =>e=.returned (.bool (zbE (l,bd)))∧Below W.heap.size W w':=by
 obtain ⟨a,c,rfl⟩:=zag ho
 have hb0:=kz ((Below.refl W.heap.size W).alloc (Nat.le_refl _) (.cells #[.slice a l.length c,.bool bd] 96))
 have x0:=(Blk.new W #[.slice a l.length c,.bool bd] 96).cell 0
 have x1:=(Blk.new W #[.slice a l.length c,.bool bd] 96).cell 1
 clear ho
 cases bd with
 | false =>
  go_enter Tryz.func49,Tryz.ntmps49
  go_wp2
  go_ret
  exact ⟨rfl,oz hb0⟩
 | true =>
  by_cases h0:l.length=0
  ·have HF:=kz (show zbE (l,true)=true by rw [List.length_eq_zero_iff.1 h0];rfl)
   have e1:((l.length:Int) == 0)=true:=by simp [h0]
   clear h0
   go_enter Tryz.func49,Tryz.ntmps49
   go_wp2
   go_ret
   exact ⟨by rw [oz HF];rfl,oz hb0⟩
  ·have HF:=kz (show zbE (l,true)=false by
    cases l with
    | nil =>exact absurd rfl h0
    | cons n l =>rfl)
   have e1:((l.length:Int) == 0)=false:=by simp;intro e;exact h0 (by rw [e];rfl)
   clear h0
   go_enter Tryz.func49,Tryz.ntmps49
   go_wp2
   go_ret
   exact ⟨by rw [oz HF];rfl,oz hb0⟩
def inI (l:List Nat) (n:Int):Bool:=l.any (fun x =>(x:Int) == n)
theorem zcL {W:World} {a:Option Addr} {l:List Nat} (h:RowC W W.heap.size a (l.map zaP)):zrT W a (l.map (fun n:Nat =>(n:Int))):=fun h0 =>by
 rw [List.length_map] at h0
 obtain ⟨g,o,e,hg,hc⟩:=h (by rw [List.length_map];exact h0)
 refine ⟨g,o,e,hg,fun j hj =>?_⟩
 rw [List.length_map] at hj
 rw [hc j (zaP l[j]) (by rw [List.getElem?_map,List.getElem?_eq_getElem hj];rfl)]
 rw [List.getD,List.getElem?_map,List.getElem?_eq_getElem hj]
 rfl
set_option maxRecDepth 100000 in
set_option maxHeartbeats 4000000 in
theorem zeR (a:Option Addr) (c:Nat) (l:List Nat) (hl:l.length≤900000) (n:Int) (W:World) (h:RowC W W.heap.size a (l.map zaP)) :
  Calls Tryz.prog 70 #[.slice a l.length c,.int .i64 n] W fun e w' => ∃ k:Int,e=.returned (.int .i64 k)∧decide (k ≥ 0)=inI l n∧w'=W:=by
 have H:=kz h
 clear h
 go_enter Tryz.func70,Tryz.ntmps70
 go_wp2_with fail
 go_loopw [5,8] (fun _ s8 wr => ∃ k:Nat,k≤l.length∧s8=.int .i64 k∧Hz (∀ j x,j < k→l[j]?=some x→(x:Int)≠n)∧wr=W) (fun _ s8 _ =>l.length - (intOf s8).toNat)
 case atStart =>exact ⟨0,Nat.zero_le _,rfl,kz (fun j x hj =>by omega),rfl⟩
 case round =>
  obtain ⟨k,hk,rfl,HN,rfl⟩:=hrel
  by_cases hkn:k < l.length
  ·obtain ⟨x,hx⟩:∃ x,l[k]?=some x:=⟨_,List.getElem?_eq_getElem hkn⟩
   obtain ⟨g,q,rfl,hg,hc⟩:=(oz H) (by rw [List.length_map];omega)
   have kc:wr.cell? ⟨g,q+k,none⟩=some (.int .i64 x):=hc k _ (by rw [List.getElem?_map,hx];rfl)
   have hk1:(k:Int) < (l.length:Int):=by omega
   have hk2:((k:Nat):Int).toNat=k:=by omega
   have HX:=kz hx
   clear hx hc
   by_cases he:n=(x:Int)
   ·subst he
    have hxx:((x:Int) == (x:Int))=true:=by simp
    have HF:Hz (decide ((k:Int) ≥ 0)=inI l (x:Int)):=kz (by
     rw [decide_eq_true (by omega)]
     unfold inI
     symm
     rw [List.any_eq_true]
     exact ⟨x,List.mem_of_getElem? (oz HX),by simp⟩)
    go_wp2_with fail
    go_ret
    exact ⟨_,rfl,oz HF,rfl⟩
   ·have hxx:(n == (x:Int))=false:=by simpa using he
    have HN2:Hz (∀ j y,j < k+1→l[j]?=some y→(y:Int)≠n):=kz (fun j y hj hy =>by
     by_cases e:j=k
     ·subst e
      rw [oz HX] at hy
      cases hy
      exact fun e2 =>he e2.symm
     ·exact oz HN j y (by omega) hy)
    clear he
    go_wp2_with fail
    exact ⟨⟨k+1,by omega,by go_num,HN2,by first | rfl | trivial⟩,by simp [intOf];omega⟩
  ·have hk1:¬ (k:Int) < (l.length:Int):=by omega
   obtain rfl:k=l.length:=by omega
   have HF:Hz (decide ((-1:Int) ≥ 0)=inI l n):=kz (by
    rw [decide_eq_false (by omega)]
    symm
    unfold inI
    rw [List.any_eq_false]
    intro x hx
    obtain ⟨j,hj,rfl⟩:=List.getElem_of_mem hx
    have:=oz HN j _ hj (List.getElem?_eq_getElem hj)
    simpa using this)
   go_wp2_with fail
   go_ret
   exact ⟨_,rfl,oz HF,rfl⟩
theorem zcR (a:Option Addr) (c:Nat) (l:List Nat) (hl:l.length≤900000) (n:Int) (W:World) (h:RowC W W.heap.size a (l.map zaP)) :
  Calls Tryz.prog 50 #[.slice a l.length c,.int .i64 n] W fun e w' =>e=.returned (.bool (inI l n))∧w'=W:=by
 have HC:=kz (zeR a c l hl n W h)
 clear h
 go_enter Tryz.func50,Tryz.ntmps50
 go_wp2_with fail
 refine (oz HC).mono ?_
 rintro e w1 ⟨k,rfl,hk,rfl⟩
 have HK:=kz hk
 clear hk HC
 go_wp2_with fail
 go_ret
 exact ⟨by rw [← oz HK];rfl,rfl⟩
def zg3 (l:List Int) (m:List Nat):Bool:=l.all (fun n =>inI m n)
set_option maxRecDepth 100000 in
set_option maxHeartbeats 4000000 in
theorem zfz (a b:Option Addr) (ca cb:Nat) (l:List Int) (m:List Nat) (hl:l.length≤900000) (hm:m.length≤900000) (W:World) (h1:RowC W W.heap.size a (l.map (Value.int .i64))) (h2:RowC W W.heap.size b (m.map zaP)) :
  Calls Tryz.prog 28 #[.slice a l.length ca,.slice b m.length cb] W fun e w' =>e=.returned (.bool (zg3 l m))∧Below W.heap.size W w':=by
 have H1:=kz h1
 have H2:=kz h2
 clear h1 h2
 go_enter Tryz.func28,Tryz.ntmps28
 go_wp2_with fail
 go_loopw [5,6] (fun s5 _ wr => ∃ k:Nat,k≤l.length∧s5=.int .i64 k∧Hz (∀ j x,j < k→l[j]?=some x→inI m x=true)∧∃ q,wr=W.drewN q) (fun s5 _ _ =>l.length - (intOf s5).toNat)
 case atStart =>exact ⟨0,Nat.zero_le _,rfl,kz (fun j x hj =>by omega),0,rfl⟩
 case round =>
  obtain ⟨k,hk,rfl,HN,q,rfl⟩:=hrel
  by_cases hkn:k < l.length
  ·obtain ⟨x,hx⟩:∃ x,l[k]?=some x:=⟨_,List.getElem?_eq_getElem hkn⟩
   obtain ⟨g,o,rfl,hg,hc⟩:=(oz H1) (by rw [List.length_map];omega)
   have kc:W.cell? ⟨g,o+k,none⟩=some (.int .i64 x):=hc k _ (by rw [List.getElem?_map,hx];rfl)
   have hk1:(k:Int) < (l.length:Int):=by omega
   have hk2:((k:Nat):Int).toNat=k:=by omega
   have HX:=kz hx
   clear hx hc
   go_wp2_with fail
   go_loopw [6] (fun s6 wr => ∃ i:Nat,i≤m.length∧s6=.int .i64 i∧Hz (∀ j y,j < i→m[j]?=some y→(y:Int)≠x)∧∃ q,wr=W.drewN q) (fun s6 _ =>m.length - (intOf s6).toNat)
   case atStart =>exact ⟨0,Nat.zero_le _,rfl,kz (fun j x hj =>by omega),_,rfl⟩
   case round =>
    obtain ⟨i,hi,rfl,HM,q,rfl⟩:=hrel
    by_cases hin:i < m.length
    ·obtain ⟨y,hy⟩:∃ y,m[i]?=some y:=⟨_,List.getElem?_eq_getElem hin⟩
     obtain ⟨g',o',rfl,hg',hc'⟩:=(oz H2) (by rw [List.length_map];omega)
     have kc':W.cell? ⟨g',o' + i,none⟩=some (.int .i64 y):=hc' i _ (by rw [List.getElem?_map,hy];rfl)
     have hi1:(i:Int) < (m.length:Int):=by omega
     have hi2:((i:Nat):Int).toNat=i:=by omega
     have HY:=kz hy
     clear hy hc'
     by_cases he:(y:Int)=x
     ·have hne:((y:Int) != x)=false:=by simp [he]
      have hnl:((i:Int) == (m.length:Int))=false:=by simp;omega
      have HN2:Hz (∀ j z,j < k+1→l[j]?=some z→inI m z=true):=kz (fun j z hj hz =>by
       by_cases e:j=k
       ·subst e
        rw [oz HX] at hz
        cases hz
        unfold inI
        rw [List.any_eq_true]
        exact ⟨y,List.mem_of_getElem? (oz HY),by simp [he]⟩
       ·exact oz HN j z (by omega) hz)
      clear he
      go_wp2
      go_quiet (fail)
      go_wp2_with fail
      exact ⟨⟨k+1,by omega,by go_num,HN2,_,rfl⟩,by simp [intOf];omega⟩
     ·have hne:((y:Int) != x)=true:=by simp [he]
      have HM2:Hz (∀ j z,j < i+1→m[j]?=some z→(z:Int)≠x):=kz (fun j z hj hz =>by
       by_cases e:j=i
       ·subst e
        rw [oz HY] at hz
        cases hz
        exact he
       ·exact oz HM j z (by omega) hz)
      clear he
      go_wp2
      go_quiet (fail)
      go_wp2_with fail
      exact ⟨⟨i+1,by omega,by go_num,HM2,_,rfl⟩,by simp [intOf];omega⟩
    ·have hi1:¬ (i:Int) < (m.length:Int):=by omega
     obtain rfl:i=m.length:=by omega
     have hnl:((m.length:Int) == (m.length:Int))=true:=by simp
     have HF:Hz (zg3 l m=false):=kz (by
      unfold zg3
      rw [List.all_eq_false]
      refine ⟨x,List.mem_of_getElem? (oz HX), ?_⟩
      unfold inI
      rw [Bool.not_eq_true,List.any_eq_false]
      intro y hy
      obtain ⟨j,hj,rfl⟩:=List.getElem_of_mem hy
      have:=oz HM j _ hj (List.getElem?_eq_getElem hj)
      simpa using this)
     go_wp2
     go_quiet (fail)
     go_wp2_with fail
     go_ret
     exact ⟨by rw [oz HF];rfl,below_drewN (Below.refl _ _) _⟩
  ·have hk1:¬ (k:Int) < (l.length:Int):=by omega
   obtain rfl:k=l.length:=by omega
   have HF:Hz (zg3 l m=true):=kz (by
    unfold zg3
    rw [List.all_eq_true]
    intro x hx
    obtain ⟨j,hj,rfl⟩:=List.getElem_of_mem hx
    exact oz HN j _ hj (List.getElem?_eq_getElem hj))
   go_wp2_with fail
   go_ret
   exact ⟨by rw [oz HF];rfl,below_drewN (Below.refl _ _) _⟩
theorem zd1 (a b:Option Addr) (ca cb:Nat) (l:List Nat) (hl:l.length≤900000) (w:World) (ha:RowC w w.heap.size a (l.map zaP)) (hb:RowC w w.heap.size b (l.map zaP)) :
  Calls Tryz.prog 30 #[.slice a l.length ca,.slice b l.length cb] w fun e w' =>e=.returned (.bool true)∧Below w.heap.size w w':=by
 have:=zg7 a b ca cb (l.map (fun n:Nat =>(n:Int))) (by rw [List.length_map];omega) w (zcL ha) (zcL hb)
 rwa [List.length_map] at this
end Go.Proofs.YtmemedpoaocdkaaGreat
namespace Go.Proofs.YtmemedpoaocdkaaGreat
open Go.RowKit Go.Shelf Go.Maps
attribute [local go_sem] Oper.semAt_some
set_option linter.unusedVariables false
theorem zbc (T:TV) (l:List (Int × Bool)):(zaH T l).1.length≤T.sc.length:=by
 rw [zcp]
 refine Nat.le_trans (List.length_filter_le _ _) ?_
 rw [List.length_range]
 exact Nat.le_refl _
theorem zbC {W:World} {lo E sz n B:Nat} {v:Value} {xs:List Value} {cs:Array Value} {t:TypeId} (h:W.ownsRow lo E sz v n xs) (hb:Blk W B cs t) (ht:t≠E) (i:Nat) (u:Value):(W.setCell ⟨B,i,none⟩ u).ownsRow lo E sz v n xs:=by
 refine h.kept (zau W ⟨B,i,none⟩ u) ?_
 rcases h.2 with ⟨rfl,_⟩ | ⟨g,cap,cur,rfl,_,hg,_⟩
 ·exact .inl rfl
 ·refine .inr fun e =>?_
  have e:g=B:=by simpa [Value.ownBlock] using e
  subst e
  rw [show W.heap[g]?=_ from hb] at hg
  injection hg with hg
  injection hg with _ h2
  exact ht h2
theorem zgr (s:ByteArray) (i:Nat):R32 (rn s i:Int):=by
 have:=zfm _ (zhc s i)
 unfold R32
 omega
def TiI (w:World) (Bb Bt Bs lo B:Nat) (T:TV) (s:ByteArray) (pre:List Nat) (W:World):Prop :=
 ∃ v,Blk W Bt #[v,.bool (zaH T (pre.map (spX s))).2] 96∧W.ownsRow lo 3 1 v (zaH T (pre.map (spX s))).1.length ((zaH T (pre.map (spX s))).1.map zaP)∧Blk W Bb #[.pointer (some ⟨B,0,none⟩)] 29∧Blk W Bs #[.string s] 9∧Below w.heap.size w W∧lo≤W.heap.size∧v.ownBlock≠some (Bt+1)
theorem TiI.own {w:World} {Bb Bt Bs lo B A:Nat} {T:TV} {s:ByteArray} (h1:w.heap.size≤A):OwnFrom A (TiI w Bb Bt Bs lo B T s):=by
 rintro p X Y row ⟨v,hv,hr,hb,hs,hl,hz,hn⟩ hg hrow
 have ho:∀ {Bq:Nat} {cs:Array Value} {t:TypeId},Blk X Bq cs t→Blk Y Bq cs t:=fun {Bq cs t} h =>h.kept hg (fun e' =>by
  obtain ⟨_,o,ho,hc⟩:=hrow Bq e'.symm
  rw [show X.heap[Bq]?=_ from h] at ho;cases ho;cases hc)
 refine ⟨v,ho hv,hr.kept hg ?_,ho hb,ho hs,hl.grown hg hl.size (fun j e =>by have:=(hrow j e).1;omega),Nat.le_trans hz hg.size,hn⟩
 rcases hr.2 with ⟨rfl,_⟩ | ⟨g,cap,cur,rfl,_,hgb,_⟩
 ·exact .inl rfl
 ·refine .inr fun e' =>?_
  obtain ⟨_,o,ho,hc⟩:=hrow g (by simpa [Value.ownBlock] using e'.symm)
  rw [hgb] at ho;cases ho;cases hc
theorem TiI.alloc {w W:World} {Bb Bt Bs lo B:Nat} {T:TV} {s:ByteArray} {pre:List Nat} (h:TiI w Bb Bt Bs lo B T s pre W) (o:Obj):TiI w Bb Bt Bs lo B T s pre (W.alloc o):=by
 obtain ⟨v,hv,hr,hb,hs,hl,hz,hn⟩:=h
 exact ⟨v,hv.alloc o,hr.alloc o,hb.alloc o,hs.alloc o,hl.alloc hl.size o,by simp;omega,hn⟩
theorem za7 {W W':World} (h:Below W.heap.size W W'):KeepsOthers W W':=KeepsOthers.of_grownBy (zbz h) (fun j o ej _ =>by cases ej)
set_option maxRecDepth 100000 in
set_option maxHeartbeats 4000000 in
theorem zhj (n:Nat) (hn:4≤n) (T:TV) (hO:zam T) (s:ByteArray) (hs:s.size≤1000000000000) (B:Nat) (w:World) (hbk:BookAt w B T) :
  CallsIn Fence.wide n Tryz.prog 29 #[.pointer (some ⟨B,0,none⟩),.string s] w fun e w' => ∃ v,e=.returned v∧w'.ownsRow w.heap.size 3 1 v (zb2 T s).length ((zb2 T s).map zaP)∧Below w.heap.size w w':=by
 have h1:1≤n:=by omega
 have hsm:s.size≤maxLen:=by unfold maxLen;omega
 have hsl:(zai s).length≤s.size:=zav s
 have hL:=hO.l0
 refine callsIn_of_wp_marks Tryz.func29 rfl trivial ?_ rfl
 simp only [Tryz.ntmps29,List.size_toArray,List.length_cons,List.length_nil,Nat.reduceAdd,Nat.reduceSub,Array.replicate_succ,Array.replicate_zero,List.push_toArray,List.append_toArray,List.nil_append,List.cons_append]
 have hb1:=(Below.refl w.heap.size w).alloc (Nat.le_refl _) (.cells #[.pointer (some ⟨B,0,none⟩)] 29)
 have hk1:=Blk.new w #[.pointer (some ⟨B,0,none⟩)] 29
 have hz1:(w.alloc (.cells #[.pointer (some ⟨B,0,none⟩)] 29)).heap.size=w.heap.size+1:=by simp
 have HU:=kz (zch hO B _ (hbk.below hb1))
 have HB1:=kz hb1
 have HK1:=kz hk1
 clear hb1 hk1
 gi_wp2_with fail
 generalize w.alloc (.cells #[.pointer (some ⟨B,0,none⟩)] 29)=W1 at *
 refine ⟨trivial, ?_⟩
 refine (callsIn_wide.2 (oz HU)).mono ?_
 rintro e w1 ⟨v0,rfl,ho0,hb⟩
 have ho:=ho0
 rw [List.length_range] at ho0
 obtain ⟨a0,c0,rfl⟩:=zag ho0
 clear ho0
 have hs1:=hb.size
 have hB1:=(oz HB1).trans (hb.mono (oz HB1).size)
 have hK1:=(oz HK1).below hb (oz HK1).lt
 have hTI:TiI w w.heap.size w1.heap.size (w1.heap.size+1) W1.heap.size B T s [] ((w1.alloc (.cells #[.slice a0 T.sc.length c0,.bool false] 96)).alloc (.cells #[.string s] 9)):=by
  have t1:=(Blk.new w1 #[.slice a0 T.sc.length c0,.bool false] 96).alloc (.cells #[.string s] 9)
  have t2:=Blk.new (w1.alloc (.cells #[.slice a0 T.sc.length c0,.bool false] 96)) #[.string s] 9
  simp only [World.size_alloc] at t2
  exact ⟨.slice a0 T.sc.length c0,t1,(ho.alloc _).alloc _,(hK1.alloc _).alloc _,t2,(hB1.alloc hB1.size _).alloc (by have:=hB1.size;simp;omega) _,by simp;omega,fun e =>by have:=(ho.lt _ e).2;omega⟩
 have hz0:((w1.alloc (.cells #[.slice a0 T.sc.length c0,.bool false] 96)).alloc (.cells #[.string s] 9)).heap.size=w1.heap.size+2:=by simp
 have HTI:=kz hTI
 have HBK:=kz (fun W (h:Below w.heap.size w W) =>hbk.below h)
 have HO:=kz hO
 clear HU HB1 HK1 ho hb hB1 hK1 hTI hbk hO
 gi_wp2_with (refine ⟨trivial, ?_⟩;gi_at_call 41;refine (callsIn_wide.2 (zcJ _ _)).mono ?_;rintro e w' ⟨rfl,rfl⟩)
 generalize (w1.alloc (.cells #[.slice a0 T.sc.length c0,.bool false] 96)).alloc (.cells #[.string s] 9)=W0 at *
 obtain ⟨Bt,hBt⟩:∃ Bt,Bt=w1.heap.size:=⟨_,rfl⟩
 rw [← hBt] at HTI hz0 ⊢
 have hge:w.heap.size+1≤Bt:=by omega
 have hW1:=hz1
 clear hBt hs1
 refine wpIn_rangeFunc_ownH rfl h1 (gf:=63) (lb:=#[.pointer (some ⟨Bt+1,0,none⟩)]) rfl trivial (enters_of Tryz.func63 (by kernel_rfl) rfl)
  (zbG (n - 1) (Bt+1) (by omega) s hsm W0 ((oz HTI).choose_spec.2.2.2.1.cell 0)) zjQ (zjR (by omega)) (Below.refl _ _) (fun _ =>rfl)
  (TiI w w.heap.size Bt (Bt+1) W1.heap.size B T s) (fun _ _ _ =>False) (TiI.own (by omega)) (fun _ _ _ _ _ h _ _ =>h) (oz HTI)
  (fun x a' W => ∃ Bx,Blk W Bx (zaS (zb1 s x)) 70∧a' = { tmps:=#[.pointer (some ⟨B,0,none⟩),.string s,.pointer (some ⟨w.heap.size,0,none⟩),undef,.slice none 0 0,.pointer (some ⟨Bt,0,none⟩),undef,.pointer (some ⟨Bx,0,none⟩),.pointer (some ⟨B,0,none⟩),.bool false,.pointer (some ⟨B,0,none⟩),.agg #[.slice a0 T.sc.length c0,.bool false],.string s,.func (.func 63) #[] #[.pointer (some ⟨Bt+1,0,none⟩)],.int .i64 x,zbn (zb1 s x),undef,undef,undef,undef,undef,undef],defers := [] })
  (fun x a' =>Own.from (fun u A B row hs hg hr =>by
   obtain ⟨Bx,h2,h3⟩:=hs
   exact ⟨Bx,Blk.own _ (fun _ =>_) _ () A B row h2 hg hr,h3⟩) _)
  ?assign ?body ?done ?stop
 case assign =>
  rintro l pre x W K hI hK
  gi_wp2
  refine hK _ _ ((KeepsOthers.alloc _ _).from _) ⟨?_,KeepsWalks.alloc _ _⟩ (hI.alloc _) ⟨W.heap.size,Blk.new W _ 70,rfl⟩
  obtain ⟨v,_,_,_,hS,_,_⟩:=hI
  exact ((hS.alloc _).cell 0).trans (hS.cell 0).symm
 case body =>
  rintro l pre x a' W hl ⟨r,hr⟩ ⟨v,hT,hR,hB,hS,hl2,hlo,hnb⟩ ⟨Bx,bX,rfl⟩ hlt
  have t0:=hT.cell 0
  have t1:=hT.cell 1
  have tf:=hT.frozen
  have x0:=bX.cell 0
  have x1:=bX.cell 1
  have x2:=bX.cell 2
  have b0:=hB.cell 0
  have hlen:=zbc T (pre.map (spX s))
  have HSN:Hz (zaH T ((pre++[x]).map (spX s))=zdR T (zaH T (pre.map (spX s))) (spX s x)):=kz (by rw [List.map_append,List.map_singleton,zcI])
  have HW:=kz (zdD (oz HO) B v (zaH T (pre.map (spX s))).1 (zaH T (pre.map (spX s))).2 (rn s x) (wd s x) (zeC s x) (zgr s x) (by omega) (fun n hn =>by have:=(zc1.1 hn).1;omega) _ W (oz HBK W hl2) hR hlo)
  have HH:=kz (And.intro hT (And.intro hB (And.intro hS hl2)))
  clear hT hR hB hS hl2 bX hr
  obtain ⟨tn,htn⟩:∃ tn,tn=zaH T ((pre++[x]).map (spX s)):=⟨_,rfl⟩
  have HTN:=kz htn
  rw [← htn] at HSN
  clear htn
  have hte:zdR T ((zaH T (pre.map (spX s))).1,(zaH T (pre.map (spX s))).2) ((rn s x:Int),zeC s x)=tn:=(oz HSN).symm
  rw [hte] at HW
  clear hte
  generalize zaH T (pre.map (spX s))=tt at *
  gi_wp2_with fail
  refine ⟨trivial,fun _ =>by omega, ?_⟩
  refine (CallsIn.inRound _ (callsIn_wide.2 (oz HW))).mono ?_
  rintro e w3 ⟨v',rfl,ho,hb,hnv⟩
  have HNV:Hz (v'.ownBlock≠some (Bt+1)):=kz (fun e =>by
   rcases hnv _ e with h | h
   ·exact hnb h
   ·have:=(oz HH).2.2.1.lt
    omega)
  clear hnv
  obtain ⟨a',c',rfl⟩:=zag ho
  obtain ⟨hT,hB,hS,hl2⟩:=oz HH
  have hT3:=hT.below hb hT.lt
  have hB3:=hB.below hb hB.lt
  have hS3:=hS.below hb hS.lt
  have hl3:=hl2.trans (hb.mono hl2.size)
  have c0:=hT3.cell 0
  have c1:=hT3.cell 1
  have cf:=hT3.frozen
  have hsz:=hb.size
  have HE:=kz (And.intro hT3 (And.intro hB3 (And.intro hS3 (And.intro hl3 (And.intro ho (za7 hb))))))
  have HSS:=kz hS
  clear hT hB hS hl2 hT3 hB3 hS3 hl3 ho hb HW HH t0 t1 tf x0 x1 x2 b0
  gi_wp2
  obtain ⟨hT3,hB3,hS3,hl3,ho,hko⟩:=oz HE
  have hkk:=(hko.trans (KeepsOthers.setCell w3 ⟨Bt,0,none⟩ (.slice a' tn.1.length c'))).trans (KeepsOthers.setCell _ ⟨Bt,1,none⟩ (.bool tn.2))
  have hT4:=(hT3.set 0 (.slice a' tn.1.length c')).set 1 (.bool tn.2)
  have hS4:=(hS3.other (B':=Bt) (i:=0) (by omega) (.slice a' tn.1.length c')).other (B':=Bt) (i:=1) (by omega) (.bool tn.2)
  refine ⟨hkk.from _,⟨(hS4.cell 0).trans ((oz HSS).cell 0).symm,hkk.walks⟩,⟨.slice a' tn.1.length c', ?_, ?_,(hB3.other (by omega) _).other (by omega) _,hS4,(hl3.setCell (p:=⟨Bt,0,none⟩) (by simp;omega) _).setCell (p:=⟨Bt,1,none⟩) (by simp;omega) _, ?_,oz HNV⟩⟩
  ·rw [← oz HTN]
   exact hT4
  ·rw [← oz HTN]
   exact zbC (zbC ho hT3 (by decide) 0 _) (hT3.set 0 _) (by decide) 1 _
  ·have:=hkk.size
   omega
 case done =>
  rintro D ys W hD hys ⟨v,hT,hR,hB,hS,hl2,hlo,hnb⟩ hK
  rw [hys,show (zai s).map (spX s)=spL s from rfl] at hT hR
  have t0:=hT.cell 0
  have HE:=kz (And.intro hR hl2)
  have HD:=kz hK
  have hwD:w.heap.size≤D:=by omega
  clear hys hT hR hB hS hl2 hK
  gi_wp2
  refine ⟨by simp,.inl ⟨_,_,rfl,run_takeDeferred (oz HD), ?_⟩⟩
  obtain ⟨hR,hl2⟩:=oz HE
  have hR2:=zaE (ownsRow_putObj hR (.deferred Option.none) (oz HD) rfl) (show w.heap.size≤W1.heap.size by omega)
  exact ⟨_,results_tmp rfl _ _ _,v,rfl,hR2,hl2.trans (belowK_b (w:=w) (Nat.le_refl _) _ D _ _ hwD (oz HD) rfl rfl)⟩
 case stop =>
  rintro D c pre W hD hpre h
  exact h.elim
theorem zbD (T:TV) (hO:zam T) (s:ByteArray) (hs:s.size≤1000000000000) (B:Nat) (w:World) (hbk:BookAt w B T):Calls Tryz.prog 29 #[.pointer (some ⟨B,0,none⟩),.string s] w fun e w' => ∃ v,e=.returned v∧w'.ownsRow w.heap.size 3 1 v (zb2 T s).length ((zb2 T s).map zaP)∧Below w.heap.size w w' :=
 callsIn_wide.1 (zhj 4 (Nat.le_refl _) T hO s hs B w hbk)
end Go.Proofs.YtmemedpoaocdkaaGreat
