/- Texts of this claim, one behind the other. -/
import Derived.Test.YtoaiicbicdhkkaaGreatXa
/- StripOnce: a strip is valid and its own strip. -/
namespace Go.Proofs.YtoaiicbicdhkkaaGreat
open Go.RowKit Go.Shelf Go.Maps
set_option linter.unusedVariables false
theorem spN_fst (s:ByteArray):(spN s).map Prod.fst=zav s:=by unfold spN;simp
theorem rnsQ_all (s:ByteArray):rnsQ s (spN s)=zah s:=by
 unfold zah rnsQ
 rw [← spN_fst s,List.map_map]
 rfl
theorem rnsQ_rune (s:ByteArray) (l:List (Nat × Nat)):∀ z ∈ rnsQ s l,zaw z≠0:=by
 intro z hz
 obtain ⟨x,_,rfl⟩:=List.mem_map.1 hz
 exact zkQ s x.1
theorem strip_runes (T:TV) (s:ByteArray):zah (zd2 T s)=rnsQ s (zbi T s):=(runes_back _ (rnsQ_rune s _)).1
theorem strip_size (T:TV) (s:ByteArray):(zd2 T s).size≤4*s.size:=by
 have h1:=runesBytes_size_le (rnsQ s (zbi T s))
 have h2:=zaL s
 have h3:=zfx T s
 rw [List.length_map] at h1
 unfold zd2
 omega
end Go.Proofs.YtoaiicbicdhkkaaGreat
/- StripOnce, walked. -/
namespace Go.Proofs.YtoaiicbicdhkkaaGreat
open Go.RowKit Go.Shelf Go.Maps
set_option linter.unusedVariables false
end Go.Proofs.YtoaiicbicdhkkaaGreat
/- StripJoins, walked. -/
namespace Go.Proofs.YtoaiicbicdhkkaaGreat
open Go.RowKit Go.Shelf Go.Maps
set_option linter.unusedVariables false
/-- The strip by the runes alone. -/
theorem rnsQ_filter (T:TV) (s:ByteArray):rnsQ s (zbi T s)=(zah s).filter fun r => !drB T r:=by
 rw [← rnsQ_all]
 unfold rnsQ zbi
 rw [List.filter_map]
 rfl
end Go.Proofs.YtoaiicbicdhkkaaGreat
/- Where the spots of a strip come from: plain mathematics. -/
namespace Go.Proofs.YtoaiicbicdhkkaaGreat
open Go.RowKit Go.Shelf Go.Maps
set_option linter.unusedVariables false
theorem cat_splitU (t:ByteArray) (p:Nat) (h:p≤t.size):t.extract 0 p++t.extract p t.size=t:=by
 rw [ByteArray.extract_append_extract,Nat.min_eq_left (Nat.zero_le _),Nat.max_eq_right h]
 exact ByteArray.extract_zero_size
theorem runesL_splitU (t:ByteArray) (p:Nat) (h:p≤t.size) (hb:bdB t p=true):zah t=zah (t.extract 0 p)++zah (t.extract p t.size):=by
 have hz:(t.extract 0 p).size=p:=by rw [ByteArray.size_extract];omega
 have:=runesL_both (t.extract 0 p) (t.extract p t.size) (by rw [cat_splitU t p h,hz];exact hb)
 rwa [cat_splitU t p h] at this
theorem ext_preU (s:ByteArray) (b a:Nat) (h:a≤b):(s.extract 0 b).extract 0 a=s.extract 0 a:=by rw [ByteArray.extract_extract,Nat.zero_add,Nat.zero_add,Nat.min_eq_left h]
theorem ext_midU (s:ByteArray) (b a:Nat):(s.extract 0 b).extract a b=s.extract a b:=by rw [ByteArray.extract_extract,Nat.zero_add,Nat.zero_add,Nat.min_self]
theorem bd_preU (s:ByteArray) (i e:Nat) (h:bdB s i=true) (hi:i≤e) (he:e≤s.size):bdB (s.extract 0 e) i=true:=by
 rw [bd_iff] at h ⊢
 intro n h4 h1 hn
 have hz:(s.extract 0 e).size=e:=by rw [ByteArray.size_extract];omega
 by_cases hb:rn (s.extract 0 e) (i - n)=65533∧wd (s.extract 0 e) (i - n)=1
 ·omega
 ·have:=decode_grow (s.extract 0 e) (s.extract e s.size) (i - n) (by omega) hb
  rw [cat_splitU s e he] at this
  unfold wd
  rw [← this]
  exact h n h4 h1 hn
theorem spot_at (s:ByteArray) (i j:Nat) (h:i≤s.size):rn (s.extract i s.size) j=rn s (i+j)∧wd (s.extract i s.size) j=wd s (i+j):=by
 unfold rn wd
 rw [decode_suffix s i j h]
 exact ⟨rfl,rfl⟩
theorem runes_spotU (s:ByteArray) (i:Nat) (hi:i < s.size):zah (s.extract i (i+wd s i))=[((rn s i:Nat):Int)]:=by
 have hr:=zeB s i hi
 have hp:=zcW s i
 have hz:(s.extract i (i+wd s i)).size=wd s i:=by rw [ByteArray.size_extract];omega
 have hcat:s.extract i (i+wd s i)++s.extract (i+wd s i) s.size=s.extract i s.size:=by
  rw [ByteArray.extract_append_extract]
  congr 1 <;> omega
 have hd:Utf8.decode (s.extract i s.size) 0=Utf8.decode s i:=decode_suffix s i 0 (by omega)
 have h1:wd (s.extract i s.size) 0=wd s i:=by unfold wd;rw [hd]
 have e:=decode_part (s.extract i (i+wd s i)) (s.extract (i+wd s i) s.size) 0 (by omega) (by rw [hcat,h1,hz];omega)
 rw [hcat,hd] at e
 have hw:wd (s.extract i (i+wd s i)) 0=wd s i:=by show (Utf8.decode _ 0).2=_;rw [e]
 have hs:zav (s.extract i (i+wd s i))=[0]:=by
  unfold zav
  obtain ⟨m,hm⟩:∃ m,(s.extract i (i+wd s i)).size=m+1:=⟨wd s i - 1,by omega⟩
  rw [hm,zaF _ m 0 (by omega),hw,zaZ _ _ _ (by omega)]
 unfold zah
 rw [hs]
 simp only [List.map_cons,List.map_nil]
 show [(((Utf8.decode (s.extract i (i+wd s i)) 0).1:Nat):Int)]=_
 rw [e]
theorem runes_snocU (s:ByteArray) (i:Nat) (h:bdB s i=true) (hi:i < s.size):zah (s.extract 0 (i+wd s i))=zah (s.extract 0 i)++[((rn s i:Nat):Int)]:=by
 have hr:=zeB s i hi
 have hz:(s.extract 0 (i+wd s i)).size=i+wd s i:=by rw [ByteArray.size_extract];omega
 rw [runesL_splitU (s.extract 0 (i+wd s i)) i (by omega) (bd_preU s i _ h (by omega) hr),hz,ext_preU s _ _ (by omega),ext_midU,runes_spotU s i hi]
abbrev rnsN (s:ByteArray) (l:List Nat):List Int:=l.map fun i =>(rn s i:Int)
/-- The spots cut behind some. -/
theorem cut_at (s:ByteArray):∀ (A:List Nat) (f pos:Nat) (B:List Nat),bdB s pos=true→pos≤s.size→s.size≤pos+f→zal s f pos=A++B →
  ∃ f' pos',B=zal s f' pos'∧s.size≤pos' + f'∧pos≤pos'∧pos'≤s.size∧bdB s pos'=true∧zah (s.extract 0 pos')=zah (s.extract 0 pos)++rnsN s A∧(A=[]→pos'=pos)∧(∀ A0 q,A=A0++[q]→pos'=q+wd s q)
 | [],f,pos,B,hb,hp,hf,he =>⟨f,pos,he.symm,hf,Nat.le_refl _,hp,hb,by simp,fun _ =>rfl,fun A0 q h =>by simp at h⟩
 | a::A,f,pos,B,hb,hp,hf,he =>by
  by_cases hl:pos < s.size
  ·obtain ⟨g,rfl⟩:∃ g,f=g+1:=⟨f - 1,by omega⟩
   rw [zaF s g pos hl,List.cons_append] at he
   injection he with h1 h2
   subst h1
   have hr:=zeB s pos hl
   have hw:=zcW s pos
   obtain ⟨f',pos',e1,e2,e3,e4,e5,e6,e7,e8⟩:=cut_at s A g (pos+wd s pos) B (bd_step s pos hb hl) hr (by omega) h2
   refine ⟨f',pos',e1,e2,by omega,e4,e5, ?_,fun h =>(by cases h),fun A0 q h =>?_⟩
   ·rw [e6,runes_snocU s pos hb hl]
    simp
   ·cases A0 with
    | nil =>
     rw [List.nil_append] at h
     injection h with h3 h4
     rw [e7 h4,h3]
    | cons b A0 =>
     rw [List.cons_append] at h
     injection h with h3 h4
     exact e8 A0 q h4
  ·rw [zaZ s f pos hl] at he
   simp at he
/-- The end of the k-th seen spot's forerunner. -/
def lastQ (T:TV) (s:ByteArray) (k:Nat):Nat:=match k with
 | 0 =>0
 | k+1 =>((zbi T s).getD k (0,0)).1+wd s ((zbi T s).getD k (0,0)).1
theorem filter_at {α : Type} (f : α→Bool):∀ (l:List α) (y : α) (k:Nat),(l.filter f)[k]?=some y→∃ A B,l=A++y::B∧A.filter f=(l.filter f).take k∧f y=true
 | [],y,k,h =>by simp at h
 | a::l,y,k,h =>by
  by_cases ha:f a=true
  ·rw [List.filter_cons_of_pos ha] at h ⊢
   cases k with
   | zero =>
    simp at h
    subst h
    exact ⟨[],l,rfl,rfl,ha⟩
   | succ k =>
    rw [List.getElem?_cons_succ] at h
    obtain ⟨A,B,h1,h2,h3⟩:=filter_at f l y k h
    exact ⟨a::A,B,by rw [h1];rfl,by rw [List.filter_cons_of_pos ha,h2];rfl,h3⟩
  ·rw [List.filter_cons_of_neg ha] at h ⊢
   obtain ⟨A,B,h1,h2,h3⟩:=filter_at f l y k h
   exact ⟨a::A,B,by rw [h1];rfl,by rw [List.filter_cons_of_neg ha,h2],h3⟩
theorem zip_at {l:List Nat} {A B:List (Nat × Nat)} {y:Nat × Nat} (h:l.zipIdx=A++y::B):l=A.map Prod.fst++y.1::B.map Prod.fst∧y.2=A.length:=by
 have h1:l.zipIdx.map Prod.fst=l:=by simp
 refine ⟨?_, ?_⟩
 ·rw [h] at h1
  rw [← h1]
  simp
 ·have h2:l.zipIdx[A.length]?=some y:=by rw [h];simp
  rw [List.getElem?_zipIdx] at h2
  cases h3:l[A.length]? with
  | none =>rw [h3] at h2;cases h2
  | some z =>
   rw [h3] at h2
   simp at h2
   rw [← h2]
/-- What StripPlaces asks of each seen spot. -/
structure PlcQ (T:TV) (s:ByteArray) (k p m:Nat):Prop where
 lt:p < s.size
 le:lastQ T s k≤p
 no:zd2 T (s.extract (lastQ T s k) p)=⟨#[]⟩
 num:(zav (s.extract 0 p)).length=m
 one:firstV (s.extract p s.size)=.tuple #[zeP (zgJ s p),.bool true]
theorem seg_none {T:TV} {s:ByteArray} {a b:Nat} {D:List Nat} (hab:a≤b) (hb:b≤s.size) (h1:bdB s a=true) (ha:zah (s.extract 0 b)=zah (s.extract 0 a)++rnsN s D) (hD:∀ d ∈ D,drB T (rn s d)=true):zd2 T (s.extract a b)=⟨#[]⟩:=by
 have hz:(s.extract 0 b).size=b:=by rw [ByteArray.size_extract];omega
 have h2:=runesL_splitU (s.extract 0 b) a (by omega) (bd_preU s a b h1 hab hb)
 rw [hz,ext_preU s b a hab,ext_midU,ha] at h2
 have h3:=List.append_cancel_left h2
 unfold zd2
 rw [rnsQ_filter, ← h3]
 have h4:(rnsN s D).filter (fun r => !drB T r)=[]:=by
  rw [List.filter_eq_nil_iff]
  intro r hr
  obtain ⟨d,hd,rfl⟩:=List.mem_map.1 hr
  simp [hD d hd]
 rw [h4]
 rfl
theorem extract_none (s:ByteArray):zah (s.extract 0 0)=[]:=by
 have:s.extract 0 0=ByteArray.empty:=by
  apply ByteArray.ext
  simp
 rw [this]
 rfl
theorem place_ok {T:TV} {s:ByteArray} {k p m:Nat} (h:(zbi T s)[k]?=some (p,m)):PlcQ T s k p m:=by
 obtain ⟨A,B,h1,h2,h3⟩:=filter_at (zcP T s) (spN s) (p,m) k h
 have h2:A.filter (zcP T s)=(zbi T s).take k:=h2
 obtain ⟨h4,h5⟩:=zip_at h1
 have h5:m=A.length:=h5
 have h4:zal s s.size 0=A.map Prod.fst++p::B.map Prod.fst:=h4
 obtain ⟨f',pos',e1,e2,e3,e4,e5,e6,e7,e8⟩:=cut_at s _ _ _ _ (bd_zero s) (Nat.zero_le _) (by omega) h4
 have hlt:pos' < s.size:=by
  by_cases hl:pos' < s.size
  ·exact hl
  ·rw [zaZ s f' pos' hl] at e1
   cases e1
 obtain rfl:p=pos':=by
  obtain ⟨g,rfl⟩:∃ g,f'=g+1:=⟨f' - 1,by omega⟩
  rw [zaF s g pos' hlt] at e1
  injection e1
 rw [extract_none,List.nil_append] at e6
 have hnum:(zav (s.extract 0 p)).length=m:=by
  rw [← zbr,e6,h5]
  simp
 have hone:firstV (s.extract p s.size)=.tuple #[zeP (zgJ s p),.bool true]:=by
  rw [firstV_pos (by rw [ByteArray.size_extract];omega)]
  have:=spot_at s p 0 (by omega)
  unfold zgJ
  rw [this.1,this.2,Nat.add_zero]
 have hseg:lastQ T s k≤p∧zd2 T (s.extract (lastQ T s k) p)=⟨#[]⟩:=by
  cases k with
  | zero =>
   refine ⟨Nat.zero_le _,seg_none (D:=A.map Prod.fst) (Nat.zero_le _) e4 (bd_zero s) (by rw [show lastQ T s 0=0 from rfl,extract_none,e6];rfl) ?_⟩
   intro d hd
   obtain ⟨x,hx,rfl⟩:=List.mem_map.1 hd
   have:=List.filter_eq_nil_iff.1 (h2.trans (List.take_zero ..)) x hx
   unfold zcP at this
   simpa using this
  | succ j =>
   have hk:=(List.getElem?_eq_some_iff.1 h).1
   obtain ⟨q,hq⟩:∃ q,(zbi T s)[j]?=some q:=⟨_,List.getElem?_eq_getElem (by omega)⟩
   have hA:(A.filter (zcP T s))[j]?=some q:=by
    rw [h2,List.getElem?_take_of_lt (by omega)]
    exact hq
   obtain ⟨A1,D,g1,g2,g3⟩:=filter_at (zcP T s) A q j hA
   have hD:D.filter (zcP T s)=[]:=by
    have hl:(A.filter (zcP T s)).length=j+1:=by
     rw [h2,List.length_take]
     omega
    rw [g1,List.filter_append,List.length_append,List.filter_cons_of_pos g3,List.length_cons] at hl
    have hl2:(A1.filter (zcP T s)).length=j:=by
     rw [g2,List.length_take,h2,List.length_take]
     omega
    exact List.length_eq_zero_iff.1 (by omega)
   have hlast:lastQ T s (j+1)=q.1+wd s q.1:=by
    show ((zbi T s).getD j (0,0)).1+wd s ((zbi T s).getD j (0,0)).1=_
    rw [List.getD,hq]
    rfl
   have h6:zal s s.size 0=(A1.map Prod.fst++[q.1])++(D.map Prod.fst++p::B.map Prod.fst):=by
    rw [h4,g1]
    simp
   obtain ⟨f1,pos1,u1,u2,u3,u4,u5,u6,u7,u8⟩:=cut_at s _ _ _ _ (bd_zero s) (Nat.zero_le _) (by omega) h6
   have hp1:=u8 _ _ rfl
   obtain ⟨f2,pos2,v1,v2,v3,v4,v5,v6,v7,v8⟩:=cut_at s _ _ _ _ u5 u4 u2 u1.symm
   have hlt2:pos2 < s.size:=by
    by_cases hl:pos2 < s.size
    ·exact hl
    ·rw [zaZ s f2 pos2 hl] at v1
     cases v1
   obtain rfl:p=pos2:=by
    obtain ⟨g,rfl⟩:∃ g,f2=g+1:=⟨f2 - 1,by omega⟩
    rw [zaF s g pos2 hlt2] at v1
    injection v1
   rw [hlast, ← hp1]
   refine ⟨v3,seg_none v3 e4 u5 v6 ?_⟩
   intro d hd
   obtain ⟨x,hx,rfl⟩:=List.mem_map.1 hd
   have:=List.filter_eq_nil_iff.1 hD x hx
   unfold zcP at this
   simpa using this
 exact ⟨hlt,hseg.1,hseg.2,hnum,hone⟩
theorem place_last {T:TV} {s:ByteArray} {k p m:Nat} (h:(zbi T s)[k]?=some (p,m)):lastQ T s (k+1)=p+wd s p:=by
 show ((zbi T s).getD k (0,0)).1+wd s ((zbi T s).getD k (0,0)).1=_
 rw [List.getD,h]
 rfl
/-- The k-th spot of the strip is the k-th seen one. -/
theorem strip_at {T:TV} {s:ByteArray} {pre r:List Nat} {i:Nat} (h:zav (zd2 T s)=pre++i::r):∃ p m,(zbi T s)[pre.length]?=some (p,m)∧rn (zd2 T s) i=rn s p:=by
 have h1:=strip_runes T s
 unfold zah at h1
 rw [h] at h1
 have h2:(rnsQ s (zbi T s))[pre.length]?=some ((rn (zd2 T s) i:Nat):Int):=by
  rw [← h1,List.map_append,List.getElem?_append_right (by simp)]
  simp
 rw [List.getElem?_map] at h2
 cases h3:(zbi T s)[pre.length]? with
 | none =>rw [h3] at h2;cases h2
 | some y =>
  rw [h3] at h2
  obtain ⟨p,m⟩:=y
  refine ⟨p,m,rfl, ?_⟩
  simp at h2
  omega
end Go.Proofs.YtoaiicbicdhkkaaGreat
