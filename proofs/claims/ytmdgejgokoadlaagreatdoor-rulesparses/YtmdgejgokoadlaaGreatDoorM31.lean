/- Texts of this claim, one behind the other. -/
import Derived.Test.YtmdgejgokoadlaaGreatDoorM30
import Derived.Lib.ItoaLen
import Derived.Test.YtmdgejgokoadlaaGreatDoorM18
import Derived.Test.YtmdgejgokoadlaaGreatDoorM27
import Derived.Test.YtmdgejgokoadlaaGreatDoorM22
import Derived.Test.YtmdgejgokoadlaaGreatDoorM28
import Derived.Test.YtmdgejgokoadlaaGreatDoorM29
/- What was read can be printed. Plain mathematics. -/
namespace Go.Proofs.YtmdgejgokoadlaaGreatDoor
open Go.RowKit Go.Shelf
set_option linter.unusedVariables false
theorem wd_rune {t:ByteArray} (ho:(wordV t).ok=true) (hk:(wordV t).kind=3):widthOf ((wordV t).R:Int)≠0:=by
  unfold wordV at ho hk ⊢
  split at hk
  · cases hk
  · rename_i hs
    rw [if_neg hs] at ho ⊢
    split at hk
    · cases hk
    · rename_i hd
      rw [if_neg hd] at ho ⊢
      split at hk
      · rename_i hu
        rw [if_pos hu] at ho ⊢
        have ho2:(numdV t).2.2=true:=((Bool.and_eq_true _ _).mp ho).1
        show widthOf (((numdV t).1:Nat):Int)≠0
        unfold numdV at ho2 ⊢
        split at ho2
        · cases ho2
        · rename_i h1
          rw [if_neg h1]
          split at ho2
          · cases ho2
          · rename_i h6
            rw [if_neg h6]
            exact fun e =>h6 (.inr e)
      · rename_i hu
        rw [if_neg hu] at ho ⊢
        split at hk
        · rename_i hq
          rw [if_pos hq] at ho ⊢
          have ho2:(quoV t).2.2=true:=ho
          show widthOf (((quoV t).1:Nat):Int)≠0
          unfold quoV at ho2 ⊢
          repeat' split at ho2
          all_goals first | (cases ho2;done) | skip
          rename_i h1 h2 h3 h4 h5
          rw [if_neg h1,if_neg h2,if_neg h3,if_neg h4,if_pos h5]
          exact rn_rune _ _
        · exfalso
          have:(sgnV t).1=3:=hk
          unfold sgnV at this
          repeat' split at this
          all_goals cases this
theorem wd_num {t:ByteArray} (h0:0 < t.size) (hk:(wordV t).kind=2):(wordV t).N≤65535:=by
  unfold wordV at hk ⊢
  split at hk
  · cases hk
  · rename_i hs
    rw [if_neg hs]
    split at hk
    · rename_i hd
      rw [if_pos hd]
      have:=digB_iff.1 hd
      exact (numGo_le t t.size (bt t 0 - 48) 1 (by omega) (by omega)).2.2 (by omega)
    · rename_i hd
      rw [if_neg hd]
      split at hk
      · cases hk
      · rename_i hu
        rw [if_neg hu]
        split at hk
        · cases hk
        · rename_i hq
          rw [if_neg hq]
          show 0≤65535
          omega
theorem wd_name {t:ByteArray} (h0:0 < t.size) (ho:(wordV t).ok=true) (hk:(wordV t).kind=1):legalB (wordV t).S=true:=by
  have hs:=wordV_one hk
  have hv:=wordV_small hs
  have hle:=wordV_le t h0
  have hn:=hle.2 ho
  rw [hv] at hn hle
  have hn':1≤nameLen t:=hn
  have hle':nameLen t≤t.size:=hle.1
  have hsz:(t.extract 0 (nameLen t)).size=nameLen t:=by rw [ByteArray.size_extract];omega
  have hbt:∀ i,i < nameLen t→bt (t.extract 0 (nameLen t)) i=bt t i:=fun i hi =>by unfold bt;rw [get_extract _ _ _ _ (by omega) hle',Nat.zero_add]
  have hl:=word_local (u:=t.extract 0 (nameLen t)) h0 ho (by rw [hv,hsz];exact Nat.le_refl _) (fun i hi =>by rw [hv] at hi;exact hbt i hi) (fun _ =>.inl (by rw [hv,hsz]))
  have hs2:smallB (bt (t.extract 0 (nameLen t)) 0)=true:=by rw [hbt 0 hn'];exact hs
  rw [wordV_small hs2,hv] at hl
  have e:nameLen (t.extract 0 (nameLen t))=nameLen t:=(WV.mk.inj hl).2.2.2.2.1
  rw [hv]
  show legalB (t.extract 0 (nameLen t))=true
  unfold legalB
  rw [decide_eq_true_iff,e,hsz]
  exact ⟨hn',rfl⟩
structure GoodW (x:W8):Prop where
  r:x.k=3→okR x.r=true
  s:x.k=1→legalB x.S=true
  n:x.k=2→clsB x.n=true
theorem ws_good {s:ByteArray} (hok:(wordsV s).ok=true):∀ x ∈ wsOf s,GoodW x:=by
  intro x hx
  cases hp:posV s with
  | none =>rw [words_none hp] at hok;cases hok
  | some ps =>
    have hw:=(words_pos hp).2
    unfold wsOf at hx
    rw [hw,List.map_map] at hx
    obtain ⟨q,hq,rfl⟩:=List.mem_map.1 hx
    have hm:=cutP_mem s _ 0 ps (Nat.zero_le _) hp q hq
    have h0:0 < (rst s q).size:=by rw [rst_size];omega
    generalize hv:rst s q=t at *
    have e:(w8 ∘ mkW s) q=⟨((wordV t).kind:Nat),(wordV t).S,((wordV t).R:Nat),((wordV t).N:Nat),(q:Nat),((lcAt s q).1:Nat),((lcAt s q).2:Nat),((q+(wordV t).n:Nat):Int)⟩:=by
      show w8 (mkW s q)=_
      unfold w8 mkW
      rw [hv]
    rw [e]
    refine ⟨fun h =>?_,fun h =>?_,fun h =>?_⟩
    · exact okR_width.2 (wd_rune hm.2 (by have:(((wordV t).kind:Nat):Int)=3:=h;omega))
    · exact wd_name h0 hm.2 (by have:(((wordV t).kind:Nat):Int)=1:=h;omega)
    · have:=wd_num h0 (by have:(((wordV t).kind:Nat):Int)=2:=h;omega)
      show clsB (((wordV t).N:Nat):Int)=true
      unfold clsB
      rw [decide_eq_true (by omega),decide_eq_true (by omega)]
      rfl
def wsz:List ByteArray→Nat
  | [] =>0
  | w::l =>w.size+1+wsz l
theorem wsz_app:∀ (a b:List ByteArray),wsz (a++b)=wsz a+wsz b
  | [],b =>by show wsz b=0+wsz b;omega
  | w::a,b =>by show w.size+1+wsz (a++b)=w.size+1+wsz a+wsz b;rw [wsz_app a b];omega
theorem sepB_size:∀ (l:List (ByteArray × UInt8)),(sepB l).size=wsz (l.map Prod.fst)
  | [] =>rfl
  | x::l =>by
    show (x.1++((⟨#[x.2]⟩:ByteArray)++sepB l)).size=x.1.size+1+wsz (l.map Prod.fst)
    rw [ByteArray.size_append,ByteArray.size_append,sepB_size l]
    show x.1.size+(1+_)=_
    omega
theorem textT_wsz (T:TV):(textT T).size=wsz (linesT T).flatten:=by unfold textT;rw [sepB_size,flat_fst]
theorem rtB_size (r:Int):(rtB r).size≤14:=by
  unfold rtB textV
  split
  · show 0≤14;omega
  · rename_i hw
    have hb:=width_bound r hw
    split
    · have:=enc_size hw
      show (⟨#[39]⟩++Utf8.encode r++⟨#[39]⟩:ByteArray).size≤14
      rw [ByteArray.size_append,ByteArray.size_append]
      show 1+_+1≤14
      omega
    · have h1:=upS_size r.toNat (by omega)
      have h2:=rep_size (4 - (upS r.toNat).size) (by omega)
      show (⟨#[85,43]⟩++⟨(Lib.repeatL [48] (4 - (upS r.toNat).size)).toArray⟩++upS r.toNat:ByteArray).size≤14
      rw [ByteArray.size_append,ByteArray.size_append,h2]
      show 2+_+_≤14
      omega
theorem itoaB_cls {n:Int} (h:clsB n=true):(itoaB n).size≤21:=by
  unfold clsB at h
  rw [Bool.and_eq_true] at h
  have h0:=of_decide_eq_true h.1
  have h1:=of_decide_eq_true h.2
  exact Lib.itoa_length_le n (by omega) (by omega)
theorem legalB_small {s:ByteArray} (h:legalB s=true):s.size≤32:=by
  have h1:=of_decide_eq_true h
  have:=nameLen_le s
  omega
theorem take_inv {ws:List W8} {k:Nat} {bad:Option Rf} {eb el ec kind:Int} (h:(takeV ws k bad eb el ec kind).bad=none):bad=none∧∃ x,ws[k]?=some x∧x.k=kind∧takeV ws k bad eb el ec kind=⟨x,k+1,none⟩:=by
  cases hs:seesB ws k bad kind with
  | false =>
    unfold takeV at h
    rw [hs] at h
    cases hw:ws[k]? <;> (rw [hw] at h;cases h)
  | true =>
    obtain ⟨x,hx,_,hb⟩:=seesB_some hs
    subst hb
    refine ⟨rfl,x,hx, ?_, ?_⟩
    · unfold seesB at hs;rw [hx] at hs;simpa using hs
    · unfold takeV;rw [hs,hx]
theorem span_inv {ws:List W8} {k:Nat} {bad:Option Rf} {eb el ec:Int} (hg:∀ x ∈ ws,GoodW x) (h:(spanV ws k bad eb el ec).bad=none) :
    bad=none∧spanK ((spanV ws k bad eb el ec).lo,(spanV ws k bad eb el ec).hi)=true∧wsz (spanW ((spanV ws k bad eb el ec).lo,(spanV ws k bad eb el ec).hi))+15*k≤15*(spanV ws k bad eb el ec).k:=by
  unfold spanV at h ⊢
  dsimp only at h ⊢
  by_cases hs:seesB ws (takeV ws k bad eb el ec 3).k (takeV ws k bad eb el ec 3).bad 9=true
  · rw [if_pos hs] at h ⊢
    dsimp only at h ⊢
    obtain ⟨h1,z,hz,zk,ez⟩:=take_inv h
    obtain ⟨h2,y,hy,yk,ey⟩:=take_inv h1
    obtain ⟨h3,x,hx,xk,ex⟩:=take_inv h2
    rw [ez,ey,ex]
    dsimp only
    rw [ey] at hz
    rw [ex] at hz
    dsimp only at hz
    have g1:=(hg x (List.mem_of_getElem? hx)).r xk
    have g2:=(hg z (List.mem_of_getElem? hz)).r zk
    refine ⟨h3,by unfold spanK;rw [g1,g2];rfl, ?_⟩
    have s1:=rtB_size x.r
    have s2:=rtB_size z.r
    unfold spanW
    split
    · show (rtB x.r).size+1+0+_≤_
      omega
    · show (rtB x.r).size+1+(2+1+((rtB z.r).size+1+0))+_≤_
      omega
  · rw [if_neg hs] at h ⊢
    dsimp only at h ⊢
    obtain ⟨h3,x,hx,xk,ex⟩:=take_inv h
    rw [ex]
    dsimp only
    have g1:=(hg x (List.mem_of_getElem? hx)).r xk
    refine ⟨h3,by unfold spanK;rw [g1];rfl, ?_⟩
    have s1:=rtB_size x.r
    unfold spanW
    rw [if_pos rfl]
    show (rtB x.r).size+1+0+_≤_
    omega
theorem spansGo_inv {ws:List W8} {eb el ec:Int} (hg:∀ x ∈ ws,GoodW x):∀ (f k:Nat) (bad:Option Rf),(spansGo ws eb el ec f k bad).bad=none→bad=none∧(spansGo ws eb el ec f k bad).ss.all spanK=true∧wsz ((spansGo ws eb el ec f k bad).ss.flatMap spanW)+15*k≤15*(spansGo ws eb el ec f k bad).k
  | 0,k,bad,h =>⟨h,rfl,by show 0+_≤_;exact Nat.le_of_eq (Nat.zero_add _)⟩
  | f+1,k,bad,h =>by
    unfold spansGo at h ⊢
    by_cases hs:seesB ws k bad 3=true
    · rw [if_pos hs] at h ⊢
      dsimp only at h ⊢
      obtain ⟨h1,h2,h3⟩:=spansGo_inv hg f _ _ h
      obtain ⟨h4,h5,h6⟩:=span_inv hg h1
      refine ⟨h4,by rw [List.all_cons,h5,h2];rfl, ?_⟩
      rw [List.flatMap_cons,wsz_app]
      omega
    · rw [if_neg hs] at h ⊢
      exact ⟨h,rfl,by show 0+_≤_;exact Nat.le_of_eq (Nat.zero_add _)⟩
theorem spansV_inv {ws:List W8} {k:Nat} {bad:Option Rf} {eb el ec:Int} (hg:∀ x ∈ ws,GoodW x) (h:(spansV ws k bad eb el ec).bad=none) :
    bad=none∧(spansV ws k bad eb el ec).ss.all spanK=true∧wsz ((spansV ws k bad eb el ec).ss.flatMap spanW)+15*k+30≤15*(spansV ws k bad eb el ec).k:=by
  unfold spansV at h ⊢
  dsimp only at h ⊢
  obtain ⟨h1,z,hz,zk,ez⟩:=take_inv h
  obtain ⟨h2,h3,h4⟩:=spansGo_inv hg _ _ _ h1
  obtain ⟨h5,x,hx,xk,ex⟩:=take_inv h2
  refine ⟨h5,h3, ?_⟩
  rw [ez]
  dsimp only
  have:(takeV ws k bad eb el ec 4).k=k+1:=by rw [ex]
  omega
theorem mapGo_inv {ws:List W8} {eb el ec:Int} (hg:∀ x ∈ ws,GoodW x):∀ (f k:Nat) (bad:Option Rf),(mapGo ws eb el ec f k bad).bad=none→bad=none∧(mapGo ws eb el ec f k bad).l.all okR=true∧(mapGo ws eb el ec f k bad).l.length+k=(mapGo ws eb el ec f k bad).k
  | 0,k,bad,h =>⟨h,rfl,by show 0+k=k;omega⟩
  | f+1,k,bad,h =>by
    unfold mapGo at h ⊢
    by_cases hs:seesB ws k bad 3=true
    · rw [if_pos hs] at h ⊢
      dsimp only at h ⊢
      obtain ⟨h1,h2,h3⟩:=mapGo_inv hg f _ _ h
      obtain ⟨h4,x,hx,xk,ex⟩:=take_inv h1
      have g1:=(hg x (List.mem_of_getElem? hx)).r xk
      have e1:(takeV ws k bad eb el ec 3).k=k+1:=by rw [ex]
      have e2:(takeV ws k bad eb el ec 3).x=x:=by rw [ex]
      refine ⟨h4,by rw [List.all_cons,e2,g1,h2];rfl, ?_⟩
      rw [List.length_cons]
      omega
    · rw [if_neg hs] at h ⊢
      exact ⟨h,rfl,by show 0+k=k;omega⟩
theorem mapV_inv {ws:List W8} {k:Nat} {bad:Option Rf} {eb el ec:Int} (hg:∀ x ∈ ws,GoodW x) (h:(mapV ws k bad eb el ec).bad=none) :
    bad=none∧okR (mapV ws k bad eb el ec).fr=true∧(mapV ws k bad eb el ec).tw.all okR=true∧(mapV ws k bad eb el ec).tw≠[]∧(mapV ws k bad eb el ec).tw.length+3+k=(mapV ws k bad eb el ec).k:=by
  unfold mapV at h ⊢
  dsimp only at h ⊢
  obtain ⟨h1,z,hz,zk,ez⟩:=take_inv h
  obtain ⟨h2,h3,h4⟩:=mapGo_inv hg _ _ _ h1
  obtain ⟨h5,y,hy,yk,ey⟩:=take_inv h2
  obtain ⟨h6,u,hu,uk,eu⟩:=take_inv h5
  obtain ⟨h7,x,hx,xk,ex⟩:=take_inv h6
  have e1:(takeV ws k bad eb el ec 3).k=k+1:=by rw [ex]
  have e2:(takeV ws k bad eb el ec 3).x=x:=by rw [ex]
  have e3:(takeV ws (takeV ws k bad eb el ec 3).k (takeV ws k bad eb el ec 3).bad eb el ec 7).k=k+1+1:=by rw [eu,e1]
  generalize takeV ws (takeV ws k bad eb el ec 3).k (takeV ws k bad eb el ec 3).bad eb el ec 7=B at *
  have e4:(takeV ws B.k B.bad eb el ec 3).k=B.k+1:=by rw [ey]
  have e5:(takeV ws B.k B.bad eb el ec 3).x=y:=by rw [ey]
  have g1:=(hg x (List.mem_of_getElem? hx)).r xk
  have g2:=(hg y (List.mem_of_getElem? hy)).r yk
  refine ⟨h7,by rw [e2];exact g1,by rw [List.all_cons,e5,g2,h3];rfl,List.cons_ne_nil _ _, ?_⟩
  rw [List.length_cons,ez]
  dsimp only
  omega
theorem map_good {a:Int} {l:List Int} (ha:okR a=true) (hl:l.all okR=true) (hn:l≠[]):mpK (a,runesBytes l)=true∧∀ w,wsz (mpW w (a,runesBytes l))≤w.size+20+15*l.length:=by
  have hw:∀ z ∈ l,widthOf z≠0:=fun z hz =>okR_width.1 (List.all_eq_true.1 hl z hz)
  obtain ⟨h1,h2⟩:=runes_back l hw
  have h3:okTo (runesBytes l)=true:=okTo_iff.2 ⟨fun e =>hn (by
    rw [← h1]
    have:runesBytes l=ByteArray.empty:=toList_nil _ e
    rw [this]
    rfl),h2⟩
  refine ⟨by unfold mpK;rw [h3,ha,h1,hl];rfl,fun w =>?_⟩
  unfold mpW
  rw [h1]
  have hr:=rtB_size a
  have key:∀ l:List Int,wsz (l.map rtB)≤15*l.length:=fun l =>by
    induction l with
    | nil =>exact Nat.le_refl _
    | cons r l ih =>have:=rtB_size r;show (rtB r).size+1+wsz (l.map rtB)≤15*(l.length+1);omega
  show w.size+1+((rtB a).size+1+(1+1+wsz (l.map rtB++[⟨#[59]⟩])))≤_
  rw [wsz_app]
  have:=key l
  show w.size+1+((rtB a).size+1+(1+1+(wsz (l.map rtB)+(1+1+0))))≤_
  omega
def c0T (T:TV):Nat:=wsz (T.sc.flatMap scW)+wsz (T.co.flatMap spanW)+wsz (T.ma.flatMap maW)+wsz (T.pr.flatMap prW)+wsz (T.fo.flatMap (mpW ⟨#[102,111,108,100]⟩))+wsz (T.lk.flatMap (mpW ⟨#[108,111,111,107]⟩))+wsz (T.dr.flatMap spanW)+wsz (T.al.flatMap spanW)
theorem liL_wsz (w:ByteArray) (l:List (Int × Int)):wsz (liL w l).flatten≤wsz (l.flatMap spanW)+w.size+5:=by
  unfold liL
  split
  · show 0≤_;omega
  · show wsz ([liW w l].flatten)≤_
    rw [List.flatten_cons,List.flatten_nil,List.append_nil]
    show w.size+1+(1+1+wsz (l.flatMap spanW++[⟨#[125]⟩]))≤_
    rw [wsz_app]
    show w.size+1+(1+1+(wsz (l.flatMap spanW)+(1+1+0)))≤_
    omega
theorem text_c0 (T:TV):(textT T).size≤c0T T+33:=by
  rw [textT_wsz]
  unfold linesT c0T
  simp only [List.flatten_append, ← List.flatMap_def,wsz_app]
  have h1:=liL_wsz ⟨#[99,111,109,109,111,110]⟩ T.co
  have h2:=liL_wsz ⟨#[100,114,111,112]⟩ T.dr
  have h3:=liL_wsz ⟨#[97,108,108,111,119]⟩ T.al
  have e1:(⟨#[99,111,109,109,111,110]⟩:ByteArray).size=6:=rfl
  have e2:(⟨#[100,114,111,112]⟩:ByteArray).size=4:=rfl
  have e3:(⟨#[97,108,108,111,119]⟩:ByteArray).size=5:=rfl
  omega
theorem okT_of {T:TV} (h1:T.sc.all scK=true) (h2:T.co.all spanK=true) (h3:T.ma.all maK=true) (h4:T.pr.all prK=true) (h5:T.fo.all mpK=true) (h6:T.lk.all mpK=true) (h7:T.dr.all spanK=true) (h8:T.al.all spanK=true):okT T=true:=by
  unfold okT
  rw [h1,h2,h3,h4,h5,h6,h7,h8]
  rfl
theorem rule_inv {ws:List W8} {eb el ec:Int} {k:Nat} {x:W8} {T:TV} (hg:∀ x ∈ ws,GoodW x) (hk:okT T=true) (hc:c0T T≤15*k) (h:(ruleV ws eb el ec k x T).bad=none):okT (ruleV ws eb el ec k x T).T=true∧c0T (ruleV ws eb el ec k x T).T≤15*(ruleV ws eb el ec k x T).k:=by
  obtain ⟨o1,o2,o3,o4,o5,o6,o7,o8⟩:=okT_parts hk
  unfold c0T at hc
  have h8:=ruleNo_le x.S
  unfold ruleV at h ⊢
  generalize ruleNo x.S=n at *
  rcases (by omega:n=0∨n=1∨n=2∨n=3∨n=4∨n=5∨n=6∨n=7∨n=8) with rfl | rfl | rfl | rfl | rfl | rfl | rfl | rfl | rfl
  · cases h
  · simp only [ruleAt] at h ⊢
    unfold scriptV at h ⊢
    dsimp only at h ⊢
    obtain ⟨h1,h2,h3⟩:=spansV_inv hg h
    obtain ⟨h4,y,hy,yk,ey⟩:=take_inv h1
    have e1:(takeV ws (k+1) none eb el ec 1).k=k+2:=by rw [ey]
    have e2:(takeV ws (k+1) none eb el ec 1).x=y:=by rw [ey]
    have g1:=(hg y (List.mem_of_getElem? hy)).s yk
    have g2:=legalB_small g1
    generalize spansV ws (takeV ws (k+1) none eb el ec 1).k (takeV ws (k+1) none eb el ec 1).bad eb el ec=V at *
    rw [e2]
    refine ⟨okT_of (by rw [List.all_append,o1];show (true && ((legalB y.S && V.ss.all spanK) && true))=true;rw [g1,h2];rfl) o2 o3 o4 o5 o6 o7 o8, ?_⟩
    unfold c0T
    dsimp only
    rw [List.flatMap_append,wsz_app]
    have:wsz ([(y.S,V.ss)].flatMap scW)≤44+wsz (V.ss.flatMap spanW):=by
      rw [List.flatMap_cons,List.flatMap_nil,List.append_nil]
      show 6+1+(y.S.size+1+(1+1+wsz (V.ss.flatMap spanW++[⟨#[125]⟩])))≤_
      rw [wsz_app]
      show 6+1+(y.S.size+1+(1+1+(wsz (V.ss.flatMap spanW)+(1+1+0))))≤_
      omega
    omega
  · simp only [ruleAt] at h ⊢
    obtain ⟨h1,h2,h3⟩:=spansV_inv hg h
    generalize spansV ws (k+1) none eb el ec=V at *
    refine ⟨okT_of o1 (by rw [List.all_append,o2,h2];rfl) o3 o4 o5 o6 o7 o8, ?_⟩
    unfold c0T
    dsimp only
    rw [List.flatMap_append,wsz_app]
    omega
  · simp only [ruleAt] at h ⊢
    unfold markV at h ⊢
    dsimp only at h ⊢
    obtain ⟨h1,z,hz,zk,ez⟩:=take_inv h
    obtain ⟨h2,u,hu,uk,eu⟩:=take_inv h1
    obtain ⟨h4,y,hy,yk,ey⟩:=take_inv h2
    have e1:(takeV ws (k+1) none eb el ec 3).k=k+2:=by rw [ey]
    have e2:(takeV ws (k+1) none eb el ec 3).x=y:=by rw [ey]
    generalize takeV ws (k+1) none eb el ec 3=A at *
    have e3:(takeV ws A.k A.bad eb el ec 2).k=A.k+1:=by rw [eu]
    have e4:(takeV ws A.k A.bad eb el ec 2).x=u:=by rw [eu]
    generalize takeV ws A.k A.bad eb el ec 2=B at *
    have e5:(takeV ws B.k B.bad eb el ec 6).k=B.k+1:=by rw [ez]
    generalize takeV ws B.k B.bad eb el ec 6=C at *
    have g1:=(hg y (List.mem_of_getElem? hy)).r yk
    have g2:=(hg u (List.mem_of_getElem? hu)).n uk
    have g3:=itoaB_cls g2
    have g4:=rtB_size y.r
    rw [e2,e4]
    refine ⟨okT_of o1 o2 (by rw [List.all_append,o3];show (true && ((clsB u.n && okR y.r) && true))=true;rw [g1,g2];rfl) o4 o5 o6 o7 o8, ?_⟩
    unfold c0T
    dsimp only
    rw [List.flatMap_append,wsz_app]
    have:wsz ([(y.r,u.n)].flatMap maW)≤44:=by
      show 4+1+((rtB y.r).size+1+((itoaB u.n).size+1+(1+1+0)))≤_
      omega
    omega
  · simp only [ruleAt] at h ⊢
    unfold pairV at h ⊢
    dsimp only at h ⊢
    obtain ⟨h1,z,hz,zk,ez⟩:=take_inv h
    obtain ⟨h2,u,hu,uk,eu⟩:=take_inv h1
    obtain ⟨h3,v,hv,vk,ev⟩:=take_inv h2
    obtain ⟨h5,p,hp,pk,ep⟩:=take_inv h3
    obtain ⟨h6,q,hq,qk,eq⟩:=take_inv h5
    obtain ⟨h4,y,hy,yk,ey⟩:=take_inv h6
    have e1:(takeV ws (k+1) none eb el ec 3).k=k+2:=by rw [ey]
    have e2:(takeV ws (k+1) none eb el ec 3).x=y:=by rw [ey]
    generalize takeV ws (k+1) none eb el ec 3=A at *
    have e3:(takeV ws A.k A.bad eb el ec 7).k=A.k+1:=by rw [eq]
    generalize takeV ws A.k A.bad eb el ec 7=B at *
    have e5:(takeV ws B.k B.bad eb el ec 3).k=B.k+1:=by rw [ep]
    have e6:(takeV ws B.k B.bad eb el ec 3).x=p:=by rw [ep]
    generalize takeV ws B.k B.bad eb el ec 3=C at *
    have e7:(takeV ws C.k C.bad eb el ec 8).k=C.k+1:=by rw [ev]
    generalize takeV ws C.k C.bad eb el ec 8=D at *
    have e8:(takeV ws D.k D.bad eb el ec 3).k=D.k+1:=by rw [eu]
    have e9:(takeV ws D.k D.bad eb el ec 3).x=u:=by rw [eu]
    generalize takeV ws D.k D.bad eb el ec 3=E at *
    have e10:(takeV ws E.k E.bad eb el ec 6).k=E.k+1:=by rw [ez]
    generalize takeV ws E.k E.bad eb el ec 6=F at *
    have g1:=(hg y (List.mem_of_getElem? hy)).r yk
    have g2:=(hg p (List.mem_of_getElem? hp)).r pk
    have g3:=(hg u (List.mem_of_getElem? hu)).r uk
    have g4:=rtB_size y.r
    have g5:=rtB_size p.r
    have g6:=rtB_size u.r
    rw [e2,e6,e9]
    refine ⟨okT_of o1 o2 o3 (by rw [List.all_append,o4];show (true && ((okR y.r && (okR p.r && okR u.r)) && true))=true;rw [g1,g2,g3];rfl) o5 o6 o7 o8, ?_⟩
    unfold c0T
    dsimp only
    rw [List.flatMap_append,wsz_app]
    have:wsz ([(y.r,p.r,u.r)].flatMap prW)≤90:=by
      show 4+1+((rtB y.r).size+1+(1+1+((rtB p.r).size+1+(1+1+((rtB u.r).size+1+(1+1+0))))))≤_
      omega
    omega
  · simp only [ruleAt] at h ⊢
    obtain ⟨h1,h2,h3,h4,h5⟩:=mapV_inv hg h
    generalize mapV ws (k+1) none eb el ec=V at *
    obtain ⟨m1,m2⟩:=map_good h2 h3 h4
    have m3:=m2 ⟨#[102,111,108,100]⟩
    have e1:(⟨#[102,111,108,100]⟩:ByteArray).size=4:=rfl
    refine ⟨okT_of o1 o2 o3 o4 (by rw [List.all_append,o5];show (true && (mpK (V.fr,runesBytes V.tw) && true))=true;rw [m1];rfl) o6 o7 o8, ?_⟩
    unfold c0T
    dsimp only
    rw [List.flatMap_append,wsz_app,List.flatMap_cons,List.flatMap_nil,List.append_nil]
    omega
  · simp only [ruleAt] at h ⊢
    obtain ⟨h1,h2,h3,h4,h5⟩:=mapV_inv hg h
    generalize mapV ws (k+1) none eb el ec=V at *
    obtain ⟨m1,m2⟩:=map_good h2 h3 h4
    have m3:=m2 ⟨#[108,111,111,107]⟩
    have e1:(⟨#[108,111,111,107]⟩:ByteArray).size=4:=rfl
    refine ⟨okT_of o1 o2 o3 o4 o5 (by rw [List.all_append,o6];show (true && (mpK (V.fr,runesBytes V.tw) && true))=true;rw [m1];rfl) o7 o8, ?_⟩
    unfold c0T
    dsimp only
    rw [List.flatMap_append,wsz_app,List.flatMap_cons,List.flatMap_nil,List.append_nil]
    omega
  · simp only [ruleAt] at h ⊢
    obtain ⟨h1,h2,h3⟩:=spansV_inv hg h
    generalize spansV ws (k+1) none eb el ec=V at *
    refine ⟨okT_of o1 o2 o3 o4 o5 o6 (by rw [List.all_append,o7,h2];rfl) o8, ?_⟩
    unfold c0T
    dsimp only
    rw [List.flatMap_append,wsz_app]
    omega
  · simp only [ruleAt] at h ⊢
    obtain ⟨h1,h2,h3⟩:=spansV_inv hg h
    generalize spansV ws (k+1) none eb el ec=V at *
    refine ⟨okT_of o1 o2 o3 o4 o5 o6 o7 (by rw [List.all_append,o8,h2];rfl), ?_⟩
    unfold c0T
    dsimp only
    rw [List.flatMap_append,wsz_app]
    omega
theorem rulesGo_some (ws:List W8) (eb el ec:Int) (r:Rf):∀ f k T,(rulesGo ws eb el ec f k (some r) T).bad=some r
  | 0,k,T =>rfl
  | f+1,k,T =>by unfold rulesGo;rfl
theorem le_mono {T:TV} {a b:Nat} (h:T.Le a) (hab:a≤b):T.Le b:=by
  obtain ⟨a1,a2,a3,a4,a5,a6,a7,a8,b1,b2,b3,b4,b5,b6,b7,b8⟩:=h
  exact ⟨by omega,by omega,by omega,by omega,by omega,by omega,by omega,by omega,by omega,by omega,by omega,by omega,by omega,by omega,by omega,by omega⟩
theorem rulesGo_inv {ws:List W8} {eb el ec:Int} (hg:∀ x ∈ ws,GoodW x):∀ (f k:Nat) (bad:Option Rf) (T:TV),okT T=true→c0T T≤15*k→k≤ws.length→T.Le k→(rulesGo ws eb el ec f k bad T).bad=none→okT (rulesGo ws eb el ec f k bad T).T=true∧c0T (rulesGo ws eb el ec f k bad T).T≤15*ws.length∧(rulesGo ws eb el ec f k bad T).T.Le ws.length
  | 0,k,bad,T,h1,h2,h3,h4,h =>⟨h1,by show c0T T≤_;omega,le_mono h4 h3⟩
  | f+1,k,bad,T,h1,h2,h3,h4,h =>by
    cases bad with
    | some r =>rw [rulesGo_some] at h;cases h
    | none =>
      cases hx:ws[k]? with
      | none =>
        unfold rulesGo
        rw [hx]
        exact ⟨h1,by show c0T T≤_;omega,le_mono h4 h3⟩
      | some x =>
        have e:rulesGo ws eb el ec (f+1) k none T=rulesGo ws eb el ec f (ruleV ws eb el ec k x T).k (ruleV ws eb el ec k x T).bad (ruleV ws eb el ec k x T).T:=by
          conv =>lhs;unfold rulesGo
          rw [hx]
        rw [e] at h ⊢
        by_cases hr:ruleNo x.S=0
        · have er:ruleV ws eb el ec k x T=⟨k,some (refV ws k eb el ec),T⟩:=by unfold ruleV;rw [hr];rfl
          rw [er] at h
          rw [rulesGo_some] at h
          cases h
        · have hl:=ruleV_le ws eb el ec k x hx T h4 hr
          cases hb:(ruleV ws eb el ec k x T).bad with
          | some r =>rw [hb,rulesGo_some] at h;cases h
          | none =>
            obtain ⟨q1,q2⟩:=rule_inv hg h1 h2 hb
            rw [hb] at h
            exact rulesGo_inv hg f _ _ _ q1 q2 hl.2.1 hl.2.2 h
theorem parse_good {s:ByteArray} (hs:s.size≤262144) {k:Nat} {T:TV} (h:parseA s=⟨k,none,T⟩):okT T=true∧(textT T).size≤15*(wsOf s).length+33∧T.Le (wsOf s).length:=by
  have hok:(wordsV s).ok=true:=by
    cases hw:(wordsV s).ok with
    | true =>rfl
    | false =>unfold parseA at h;rw [hw,if_neg (by decide)] at h;cases h
  have hp:parseV s=⟨k,none,T⟩:=by unfold parseA at h;rw [if_pos hok] at h;exact h
  unfold parseV rulesV at hp
  have:=rulesGo_inv (ws_good hok) (eb:=(s.size:Nat)) (el:=endL s) (ec:=endC s) ((wsOf s).length+1) 0 none TV0 (by rfl) (by show 0≤_;omega) (Nat.zero_le _) TV0_le (by rw [hp])
  rw [hp] at this
  have h2:=text_c0 T
  exact ⟨this.1,by have:=this.2.1;dsimp only at this;omega,this.2.2⟩
def Plc (s:ByteArray) (x:Int × Int × Int):Prop := ∃ b:Nat,b≤s.size∧x=(((b:Nat):Int),(((whL s b).1:Nat):Int),(((whL s b).2:Nat):Int))
theorem ws_plc (s:ByteArray):∀ x ∈ wsOf s,Plc s (x.b,x.l,x.c):=by
  intro x h
  obtain ⟨y,hy,rfl⟩:=List.mem_map.1 h
  have hw:=(words_places s).1 y hy
  have h1:=hw.lc
  refine ⟨y.b,Nat.le_of_lt hw.lt, ?_⟩
  show (((y.b:Nat):Int),((y.l:Nat):Int),((y.c:Nat):Int))=_
  rw [← h1]
theorem spansGo_plc {P:Int × Int × Int→Prop} {ws:List W8} (hg:∀ x ∈ ws,P (x.b,x.l,x.c)) (eb el ec:Int):∀ (f k:Nat) (bad:Option Rf), ∀ p ∈ (spansGo ws eb el ec f k bad).ps,P p
  | 0,k,bad,p,h =>by cases h
  | f+1,k,bad,p,h =>by
    unfold spansGo at h
    by_cases hs:seesB ws k bad 3=true
    · rw [if_pos hs] at h
      dsimp only at h
      rcases List.mem_cons.1 h with e | h
      · obtain ⟨x,hx,_,_⟩:=seesB_some hs
        rw [e]
        unfold atV
        rw [hx]
        exact hg x (List.mem_of_getElem? hx)
      · exact spansGo_plc hg eb el ec f _ _ p h
    · rw [if_neg hs] at h
      cases h
structure TV.All (P:Int × Int × Int→Prop) (T:TV):Prop where
  r1:∀ p ∈ T.r1,P p
  r2:∀ p ∈ T.r2,P p
  r3:∀ p ∈ T.r3,P p
  r4:∀ p ∈ T.r4,P p
  r5:∀ p ∈ T.r5,P p
  r6:∀ p ∈ T.r6,P p
  r7:∀ p ∈ T.r7,P p
  r8:∀ p ∈ T.r8,P p
theorem app_all {P:Int × Int × Int→Prop} {l m:List (Int × Int × Int)} (h:∀ p ∈ l,P p) (hy:∀ p ∈ m,P p):∀ p ∈ l++m,P p:=by
  intro p hp
  rcases List.mem_append.1 hp with h1 | h1
  · exact h p h1
  · exact hy p h1
theorem one_all {P:Int × Int × Int→Prop} {y:Int × Int × Int} (hy:P y):∀ p ∈ [y],P p:=by
  intro p hp
  rw [List.mem_singleton.1 hp]
  exact hy
theorem rule_all {P:Int × Int × Int→Prop} {ws:List W8} (hg:∀ x ∈ ws,P (x.b,x.l,x.c)) (eb el ec:Int) (k:Nat) (x:W8) (hx:ws[k]?=some x) (T:TV) (hT:T.All P):(ruleV ws eb el ec k x T).T.All P:=by
  have hxp:=one_all (hg x (List.mem_of_getElem? hx))
  have hs:∀ p ∈ (spansV ws (k+1) none eb el ec).ps,P p:=fun p hp =>spansGo_plc hg eb el ec _ _ _ p hp
  have h8:=ruleNo_le x.S
  unfold ruleV
  generalize ruleNo x.S=n at *
  obtain ⟨b1,b2,b3,b4,b5,b6,b7,b8⟩:=hT
  rcases (by omega:n=0∨n=1∨n=2∨n=3∨n=4∨n=5∨n=6∨n=7∨n=8) with rfl | rfl | rfl | rfl | rfl | rfl | rfl | rfl | rfl
  all_goals simp only [ruleAt]
  · exact ⟨b1,b2,b3,b4,b5,b6,b7,b8⟩
  · exact ⟨app_all b1 hxp,b2,b3,b4,b5,b6,b7,b8⟩
  · exact ⟨b1,app_all b2 hs,b3,b4,b5,b6,b7,b8⟩
  · exact ⟨b1,b2,app_all b3 hxp,b4,b5,b6,b7,b8⟩
  · exact ⟨b1,b2,b3,app_all b4 hxp,b5,b6,b7,b8⟩
  · exact ⟨b1,b2,b3,b4,app_all b5 hxp,b6,b7,b8⟩
  · exact ⟨b1,b2,b3,b4,b5,app_all b6 hxp,b7,b8⟩
  · exact ⟨b1,b2,b3,b4,b5,b6,app_all b7 hs,b8⟩
  · exact ⟨b1,b2,b3,b4,b5,b6,b7,app_all b8 hs⟩
theorem rulesGo_all {P:Int × Int × Int→Prop} {ws:List W8} (hg:∀ x ∈ ws,P (x.b,x.l,x.c)) (eb el ec:Int):∀ (f k:Nat) (bad:Option Rf) (T:TV),T.All P→(rulesGo ws eb el ec f k bad T).T.All P
  | 0,k,bad,T,h =>h
  | f+1,k,bad,T,h =>by
    cases bad with
    | some r =>unfold rulesGo;exact h
    | none =>
      cases hx:ws[k]? with
      | none =>unfold rulesGo;rw [hx];exact h
      | some x =>
        have e:rulesGo ws eb el ec (f+1) k none T=rulesGo ws eb el ec f (ruleV ws eb el ec k x T).k (ruleV ws eb el ec k x T).bad (ruleV ws eb el ec k x T).T:=by
          conv =>lhs;unfold rulesGo
          rw [hx]
        rw [e]
        exact rulesGo_all hg eb el ec f _ _ _ (rule_all hg eb el ec k x hx T h)
theorem TV0_all (P:Int × Int × Int→Prop):TV0.All P:=by
  constructor <;> (intro p h;cases h)
theorem parse_all (s:ByteArray):(parseA s).T.All (Plc s):=by
  unfold parseA
  split
  · exact rulesGo_all (ws_plc s) _ _ _ _ _ _ _ (TV0_all _)
  · exact TV0_all _
theorem TV.All.row {P:Int × Int × Int→Prop} {T:TV} (h:T.All P) (i j:Nat) (x:Int × Int × Int) (hx:(rowsOf T i)[j]?=some x):P x:=by
  have hm:=List.mem_of_getElem? hx
  unfold rowsOf at hm
  split at hm
  · exact h.r1 x hm
  · exact h.r2 x hm
  · exact h.r3 x hm
  · exact h.r4 x hm
  · exact h.r5 x hm
  · exact h.r6 x hm
  · exact h.r7 x hm
  · exact h.r8 x hm
  · cases hm
theorem rows_le {T:TV} {n:Nat} (h:T.Le n) (i:Nat):(rowsOf T i).length≤n:=by
  unfold rowsOf
  split
  · exact h.r1
  · exact h.r2
  · exact h.r3
  · exact h.r4
  · exact h.r5
  · exact h.r6
  · exact h.r7
  · exact h.r8
  · exact Nat.zero_le _
theorem where_plc (s:ByteArray) (T:TV) (hT:T.All (Plc s)) (list row:Int):Plc s (whereV T (s.size:Nat) (endL s) (endC s) list row):=by
  have hE:Plc s (((s.size:Nat):Int),endL s,endC s):=⟨s.size,Nat.le_refl _,rfl⟩
  unfold whereV
  split
  · split
    · rename_i x hx
      exact hT.row _ _ x hx
    · exact hE
  · exact hE
theorem whL_le (s:ByteArray) (k:Nat):(whL s k).1≤s.size+1∧(whL s k).2≤s.size+2:=by
  rw [whL_runes, ← lcF_all]
  have h:=lcF_le (s.extract 0 (cutAt s k)) (1,1) (starts (s.extract 0 (cutAt s k)))
  have h2:=starts_length (s.extract 0 (cutAt s k))
  have h3:(s.extract 0 (cutAt s k)).size≤s.size:=by rw [ByteArray.size_extract];omega
  omega
theorem Plc.le {s:ByteArray} {x:Int × Int × Int} (h:Plc s x):(0≤x.2.1∧x.2.1≤s.size+1)∧(0≤x.2.2∧x.2.2≤s.size+2):=by
  obtain ⟨b,hb,rfl⟩:=h
  have:=whL_le s b
  dsimp only
  omega
theorem ref_plc {s:ByteArray} (k:Nat):Plc s ((refV (wsOf s) k (s.size:Nat) (endL s) (endC s)).b,(refV (wsOf s) k (s.size:Nat) (endL s) (endC s)).l,(refV (wsOf s) k (s.size:Nat) (endL s) (endC s)).c)∧((refV (wsOf s) k (s.size:Nat) (endL s) (endC s)).why=5∨(refV (wsOf s) k (s.size:Nat) (endL s) (endC s)).why=21):=by
  unfold refV
  cases h:(wsOf s)[k]? with
  | none =>exact ⟨⟨s.size,Nat.le_refl _,rfl⟩,.inr rfl⟩
  | some x =>exact ⟨ws_plc s x (List.mem_of_getElem? h),.inl rfl⟩
def Rv (ws:List W8) (eb el ec:Int) (bad:Option Rf):Prop := ∀ f,bad=some f→∃ j,f=refV ws j eb el ec
theorem take_rv {ws:List W8} {eb el ec:Int} {k:Nat} {bad:Option Rf} {kind:Int} (h:Rv ws eb el ec bad):Rv ws eb el ec (takeV ws k bad eb el ec kind).bad:=by
  unfold takeV
  split
  · exact h
  · exact fun f e =>⟨k,(Option.some.inj e).symm⟩
theorem span_rv {ws:List W8} {eb el ec:Int} {k:Nat} {bad:Option Rf} (h:Rv ws eb el ec bad):Rv ws eb el ec (spanV ws k bad eb el ec).bad:=by
  unfold spanV
  dsimp only
  split
  · exact take_rv (take_rv (take_rv h))
  · exact take_rv h
theorem spansGo_rv {ws:List W8} {eb el ec:Int}:∀ (f k:Nat) (bad:Option Rf),Rv ws eb el ec bad→Rv ws eb el ec (spansGo ws eb el ec f k bad).bad
  | 0,k,bad,h =>h
  | f+1,k,bad,h =>by
    unfold spansGo
    split
    · exact spansGo_rv f _ _ (span_rv h)
    · exact h
theorem spansV_rv {ws:List W8} {eb el ec:Int} {k:Nat} {bad:Option Rf} (h:Rv ws eb el ec bad):Rv ws eb el ec (spansV ws k bad eb el ec).bad:=by
  unfold spansV
  dsimp only
  exact take_rv (spansGo_rv _ _ _ (take_rv h))
theorem mapGo_rv {ws:List W8} {eb el ec:Int}:∀ (f k:Nat) (bad:Option Rf),Rv ws eb el ec bad→Rv ws eb el ec (mapGo ws eb el ec f k bad).bad
  | 0,k,bad,h =>h
  | f+1,k,bad,h =>by
    unfold mapGo
    split
    · exact mapGo_rv f _ _ (take_rv h)
    · exact h
theorem mapV_rv {ws:List W8} {eb el ec:Int} {k:Nat} {bad:Option Rf} (h:Rv ws eb el ec bad):Rv ws eb el ec (mapV ws k bad eb el ec).bad:=by
  unfold mapV
  dsimp only
  exact take_rv (mapGo_rv _ _ _ (take_rv (take_rv (take_rv h))))
theorem markV_rv {ws:List W8} {eb el ec:Int} {k:Nat} {bad:Option Rf} (h:Rv ws eb el ec bad):Rv ws eb el ec (markV ws k bad eb el ec).bad:=by
  unfold markV
  dsimp only
  exact take_rv (take_rv (take_rv h))
theorem pairV_rv {ws:List W8} {eb el ec:Int} {k:Nat} {bad:Option Rf} (h:Rv ws eb el ec bad):Rv ws eb el ec (pairV ws k bad eb el ec).bad:=by
  unfold pairV
  dsimp only
  exact take_rv (take_rv (take_rv (take_rv (take_rv (take_rv h)))))
theorem none_rv (ws:List W8) (eb el ec:Int):Rv ws eb el ec none:=fun f e =>by cases e
theorem rule_rv (ws:List W8) (eb el ec:Int) (k:Nat) (x:W8) (T:TV):Rv ws eb el ec (ruleV ws eb el ec k x T).bad:=by
  have h0:=none_rv ws eb el ec
  have h8:=ruleNo_le x.S
  unfold ruleV
  generalize ruleNo x.S=n at *
  rcases (by omega:n=0∨n=1∨n=2∨n=3∨n=4∨n=5∨n=6∨n=7∨n=8) with rfl | rfl | rfl | rfl | rfl | rfl | rfl | rfl | rfl
  all_goals simp only [ruleAt]
  · exact fun f e =>⟨k,(Option.some.inj e).symm⟩
  · exact spansV_rv (take_rv h0)
  · exact spansV_rv h0
  · exact markV_rv h0
  · exact pairV_rv h0
  · exact mapV_rv h0
  · exact mapV_rv h0
  · exact spansV_rv h0
  · exact spansV_rv h0
theorem rulesGo_rv (ws:List W8) (eb el ec:Int):∀ (f k:Nat) (bad:Option Rf) (T:TV),Rv ws eb el ec bad→Rv ws eb el ec (rulesGo ws eb el ec f k bad T).bad
  | 0,k,bad,T,h =>h
  | f+1,k,bad,T,h =>by
    unfold rulesGo
    split
    · exact rulesGo_rv ws eb el ec f _ _ _ (rule_rv ws eb el ec _ _ _)
    · exact h
structure RfOk (s:ByteArray) (f:Rf):Prop where
  plc:Plc s (f.b,f.l,f.c)
  why:f.why=5∨f.why=20∨f.why=21
theorem parseV_ref {s:ByteArray} {f:Rf} (h:(parseV s).bad=some f):Plc s (f.b,f.l,f.c)∧(f.why=5∨f.why=21):=by
  obtain ⟨j,rfl⟩:=rulesGo_rv (wsOf s) (s.size:Nat) (endL s) (endC s) _ _ none _ (none_rv _ _ _ _) f h
  exact ref_plc j
theorem parse_ref {s:ByteArray} {f:Rf} (h:(parseA s).bad=some f):RfOk s f:=by
  unfold parseA at h
  split at h
  · obtain ⟨h1,h2⟩:=parseV_ref h
    exact ⟨h1,by rcases h2 with e | e;exact .inl e;exact .inr (.inr e)⟩
  · obtain rfl:=Option.some.inj h
    refine ⟨⟨(wordsV s).b,wordsV_b s,rfl⟩, ?_⟩
    dsimp only
    split
    · exact .inr (.inl rfl)
    · exact .inr (.inr rfl)
theorem rparse_any (s:ByteArray) (hs:s.size≤262144) (W:World):Calls Tryz.prog 16 #[.string s] W fun e w' =>RpAt s W w' e (parseA s)∧Below W.heap.size W w':=by
  cases hok:(wordsV s).ok with
  | false =>
    have e:parseA s=⟨0,some ⟨((wordsV s).b:Nat),((whL s (wordsV s).b).1:Nat),((whL s (wordsV s).b).2:Nat),if (wordsV s).b < s.size then 20 else 21⟩,TV0⟩:=by unfold parseA;rw [if_neg (by rw [hok];decide)]
    rw [e]
    exact (rparse_no s hs hok W).mono (fun ev w' h =>⟨h.1,h.2⟩)
  | true =>
    have e:parseA s=parseV s:=by unfold parseA;rw [if_pos hok]
    rw [e]
    cases hb:(parseV s).bad with
    | none =>exact rparse_all s hs hok hb W
    | some f =>
      rcases (parseV_ref hb).2 with h5 | h21
      · exact rparse_word s hs hok ⟨f,hb,h5⟩ W
      · exact rparse_end s hs hok ⟨f,hb,h21⟩ W
theorem rparse_eq (s:ByteArray) (hs:s.size≤262144) (P:Ps) (hP:parseA s=P) (W:World):Calls Tryz.prog 16 #[.string s] W fun e w' =>RpAt s W w' e P∧Below W.heap.size W w':=by
  subst hP
  exact rparse_any s hs W
end Go.Proofs.YtmdgejgokoadlaaGreatDoor
