/- Texts of this claim, one behind the other. -/
import Derived.Test.YtmemedpoaocdkaaGreatM22
import Derived.WideKeyEntry
/- A Book of tables: wholes by their runes and by their parts: an entry that is stored later. -/
namespace Go.Proofs.YtmemedpoaocdkaaGreat
open Go.RowKit Go.Shelf Go.Maps
set_option linter.unusedVariables false
section
open Go.WideElems Go.MapKept Go.ChangeMaps
theorem zkD {P:Program} {w:World} {t k e:TypeId} {R:Value→Option (DataW Unit × List MemPlace)} {b:Nat} {es:Array MapEntry} {clock:Nat} (K:Keyed P k) (ht:P.underlying t=some (.map k e)) {z:Value} (hz:∀ u:World,(zeroValue e).run P u=.ok z u) (hb:w.heap[b]?=some (.map es clock)) (F:WideElems.Fit P k R es clock)
  {key:Value} {kl:Lit} (hkey:keyOf P k key=some kl) :
  ∃ (v0 : Value) (st : Nat) (es1 : Array MapEntry) (clock1 : Nat), (Instr.mapEntry t (.map (some b)) key).run P w = .ok (.tuple #[v0, goInt st]) (setBlock w b (.map es1 clock1)) ∧
    ∀ (w2:World) (val:Value),w2.heap[b]?=some (.map es1 clock1)→∃ es' clock',(Instr.entryStore t (.map (some b)) (goInt st) val).run P w2=.ok () (setBlock w2 b (.map es' clock')) ∧
      (Instr.mapUpdate t (.map (some b)) key val).run P w=.ok () (setBlock w b (.map es' clock')):=by
 obtain ⟨s1,s2,_⟩:=F.stamped
 rcases K.find w hkey es.toList F.keys with ⟨h1,h2⟩ | ⟨j,e0,h1,h2,h3⟩
 ·refine ⟨z,clock,es.push ⟨key,z,clock⟩,clock+1, ?_,fun w2 val hw2 =>⟨es.push ⟨key,val,clock⟩,clock+1, ?_, ?_⟩⟩
  ·simp [Instr.mapEntry,run_underlying ht,MapKept.run_getObj_map hb,K.check w false hkey,h1,hz,MapKept.run_setObj_map _ hb,Result.andThen,setBlock]
  ·have hidx:(es.push ⟨key,z,clock⟩).findIdx? (fun e =>((e.born:Nat):Int) == ((clock:Nat):Int))=some es.size:=by
    rw [findIdx_arr]
    refine findIdx_born (l:=(es.push ⟨key,z,clock⟩).toList) (j:=es.size) (e0:=⟨key,z,clock⟩) ?_ (by simp)
    simp only [Array.toList_push,List.map_append,List.map_cons,List.map_nil]
    refine List.nodup_append.2 ⟨s2,by simp,fun a ha c hc e1 =>?_⟩
    simp only [List.mem_singleton] at hc
    obtain ⟨x,hx,rfl⟩:=List.mem_map.1 ha
    have:=s1 x hx
    omega
   have hmod:(es.push ⟨key,z,clock⟩).modify es.size (fun e => { e with val:=val })=es.push ⟨key,val,clock⟩:=by
    apply Array.ext'
    rw [Array.toList_modify,Array.toList_push,Array.toList_push, ← Array.length_toList,modify_last]
   simp [Instr.entryStore,MapKept.run_getObj_map hw2,asInt,asIntOf,goInt,hidx,hmod,MapKept.run_setObj_map _ hw2,Result.andThen,setBlock]
  ·simp [Instr.mapUpdate,run_underlying ht,MapKept.run_getObj_map hb,K.check w false hkey,h1,MapKept.run_setObj_map _ hb,Result.andThen,setBlock]
 ·have hj:es[j]?=some e0:=by simpa using h2
  have hsame:es.modify j (fun e => { e with key:=key })=es:=by
   apply Array.ext'
   rw [Array.toList_modify,modify_eq_set _ _ _ _ h2]
   have:({ e0 with key:=key }:MapEntry)=e0:=by rw [← h3]
   rw [this]
   exact set_self _ _ _ h2
  refine ⟨e0.val,e0.born,es,clock, ?_,fun w2 val hw2 =>⟨es.modify j (fun e' => { e' with key:=key,val:=val }),clock, ?_, ?_⟩⟩
  ·simp [Instr.mapEntry,run_underlying ht,MapKept.run_getObj_map hb,K.check w false hkey,h1,hj,h3,K.stays w hkey,hsame,MapKept.run_setObj_map _ hb,Result.andThen,setBlock]
  ·have hidx:es.findIdx? (fun e =>((e.born:Nat):Int) == ((e0.born:Nat):Int))=some j:=by
    rw [findIdx_arr]
    exact findIdx_born s2 h2
   have hmod:es.modify j (fun e => { e with val:=val })=es.modify j (fun e' => { e' with key:=key,val:=val }):=by
    apply Array.ext'
    rw [Array.toList_modify,Array.toList_modify,modify_eq_set _ _ _ _ h2,modify_eq_set _ _ _ _ h2, ← h3]
   simp [Instr.entryStore,MapKept.run_getObj_map hw2,asInt,asIntOf,goInt,hidx,hmod,MapKept.run_setObj_map _ hw2,Result.andThen,setBlock]
  ·simp [Instr.mapUpdate,run_underlying ht,MapKept.run_getObj_map hb,K.check w false hkey,h1,hj,h3,K.stays w hkey,MapKept.run_setObj_map _ hb,Result.andThen,setBlock]
end
theorem MpAt.same {w w':World} {kt:TypeId} {R:Value→Option (DataW Unit × List MemPlace)} {M n:Nat} {G:Lit→Option (DataW Unit)} (h:MpAt w kt R M n G) (e:w'.heap[M]?=w.heap[M]?):MpAt w' kt R M n G:=by
 obtain ⟨D,⟨es,clock,hb,r⟩,h2⟩:=h
 exact ⟨D,⟨es,clock,e.trans hb,r⟩,h2⟩
theorem MpAt.entry {w:World} {kt mt et:TypeId} {R:Value→Option (DataW Unit × List MemPlace)} {M n:Nat} {G:Lit→Option (DataW Unit)} (h:MpAt w kt R M n G) (K:Keyed Tryz.prog kt) (ht:Tryz.prog.underlying mt=some (.map kt et)) (hn:n < maxLen) {z:Value} (hz:∀ u:World,(zeroValue et).run Tryz.prog u=.ok z u) {key:Value} {k:Lit} (hk:keyOf Tryz.prog kt key=some k) :
  ∃ (v0 : Value) (st : Nat) (w1 : World), (Instr.mapEntry mt (.map (some M)) key).run Tryz.prog w = .ok (.tuple #[v0, goInt st]) w1 ∧ w.grownBy w1 (some M) ∧
    ∀ (w2:World) (val:Value) (d:DataW Unit) (ps:List MemPlace),w2.heap[M]?=w1.heap[M]?→R val=some (d,ps)→∃ w3,(Instr.entryStore mt (.map (some M)) (goInt st) val).run Tryz.prog w2=.ok () w3∧MpAt w3 kt R M (n+1) (putG G k d)∧w2.grownBy w3 (some M):=by
 have h0:=h
 obtain ⟨D,⟨es,clock,hb,F,hs,hD⟩,h2⟩:=h
 obtain ⟨v0,st,es1,clock1,hr,hst⟩:=zkD K ht hz hb F hk
 refine ⟨v0,st,_,hr,⟨rfl,rfl,rfl,by simp [ChangeMaps.setBlock],fun i _ hi =>ChangeMaps.heap_setBlock_other hb _ (fun e =>hi (by rw [e]))⟩,fun w2 val d ps hw2 hv =>?_⟩
 rw [ChangeMaps.heap_setBlock_same hb] at hw2
 obtain ⟨es',clock',hr2,hu⟩:=hst w2 val hw2
 obtain ⟨w',hr',h3,h4⟩:=h0.update K ht hn hk hv
 rw [hu] at hr'
 injection hr' with _ e
 refine ⟨_,hr2,h3.same ?_,⟨rfl,rfl,rfl,by simp [ChangeMaps.setBlock],fun i _ hi =>ChangeMaps.heap_setBlock_other hw2 _ (fun e =>hi (by rw [e]))⟩⟩
 rw [← e,ChangeMaps.heap_setBlock_same hw2,ChangeMaps.heap_setBlock_same hb]
def zrb (a b:Int):DataW Unit := .agg [.lit (.int .i32 a),.lit (.int .i32 b)]
def zeD (v:Value):Option (DataW Unit × List MemPlace):=match v with
 | .agg cs =>(match cs.toList with
  | [.int .i32 a,.int .i32 b] =>some (zrb a b,[])
  | _ =>none)
 | _ =>none
theorem zhW (a b:Int):zeD (.agg #[.int .i32 a,.int .i32 b])=some (zrb a b,[]):=rfl
theorem zg2 {v:Value} {a b:Int} {ps:List MemPlace} (h:zeD v=some (zrb a b,ps)):v=.agg #[.int .i32 a,.int .i32 b]:=by
 unfold zeD at h
 split at h
 ·rename_i cs
  split at h
  ·rename_i x y e
   injection h with h
   injection h with h h'
   unfold zrb at h
   injection h with h
   injection h with h1 h2
   injection h2 with h2 _
   injection h1 with h1
   injection h1 with _ h1
   injection h2 with h2
   injection h2 with _ h2
   subst h1 h2
   have:cs=#[Value.int .i32 x,Value.int .i32 y]:=by rw [← Array.toArray_toList (xs:=cs),e]
   rw [this]
  ·cases h
 ·cases h
def PaG (zs:List (Int × Int × Int)) (G:Lit→Option (DataW Unit)):Prop := ∀ r,R32 r→((∀ x ∈ zs,x.1≠r)∧G (.int .i32 r)=none)∨∃ x ∈ zs,x.1=r∧G (.int .i32 r)=some (zrb x.2.1 x.2.2)
theorem PaG.put {zs:List (Int × Int × Int)} {G:Lit→Option (DataW Unit)} {x:Int × Int × Int} (h:PaG zs G):PaG (zs++[x]) (putG G (.int .i32 x.1) (zrb x.2.1 x.2.2)):=fun r h32 =>by
 unfold putG
 by_cases e:x.1=r
 ·subst e
  exact .inr ⟨x,by simp,rfl,if_pos rfl⟩
 ·rw [if_neg (fun q =>e (by injection q with _ q;exact q.symm))]
  rcases h r h32 with ⟨h1,h2⟩ | ⟨y,hy,e2,h2⟩
  ·exact .inl ⟨fun y hy =>by rcases List.mem_append.1 hy with q | q;exact h1 y q;(obtain rfl:y=x:=by simpa using q);exact e,h2⟩
  ·exact .inr ⟨y,List.mem_append.2 (.inl hy),e2,h2⟩
def JoG (zs:List (Int × Int × Int)) (G:Lit→Option (DataW Unit)):Prop := ∀ a b k,keyOf Tryz.prog 134 (.agg #[.int .i32 a,.int .i32 b])=some k→((∀ x ∈ zs, ¬ (x.2.1=a∧x.2.2=b))∧G k=none)∨∃ x ∈ zs,x.2.1=a∧x.2.2=b∧G k=some (.lit (.int .i32 x.1))
theorem JoG.put {zs:List (Int × Int × Int)} {G:Lit→Option (DataW Unit)} {x:Int × Int × Int} {k:Lit} (h:JoG zs G) (hk:keyOf Tryz.prog 134 (.agg #[.int .i32 x.2.1,.int .i32 x.2.2])=some k):JoG (zs++[x]) (putG G k (.lit (.int .i32 x.1))):=fun a b k2 hk2 =>by
 unfold putG
 by_cases e:x.2.1=a∧x.2.2=b
 ·obtain ⟨rfl,rfl⟩:=e
  obtain rfl:k=k2:=Option.some.inj (hk.symm.trans hk2)
  exact .inr ⟨x,by simp,rfl,rfl,if_pos rfl⟩
 ·have hne:¬ k2=k:=fun q =>e (by
   subst q
   have:=arr_keyed.inj hk hk2
   injection this with this
   have h0:=congrArg (fun l:Array Value =>l[0]?) this
   have h1:=congrArg (fun l:Array Value =>l[1]?) this
   simp at h0 h1
   exact ⟨h0,h1⟩)
  rw [if_neg hne]
  rcases h a b k2 hk2 with ⟨h1,h2⟩ | ⟨y,hy,e2,e3,h2⟩
  ·exact .inl ⟨fun y hy =>by rcases List.mem_append.1 hy with q | q;exact h1 y q;(obtain rfl:y=x:=by simpa using q);exact e,h2⟩
  ·exact .inr ⟨y,List.mem_append.2 (.inl hy),e2,e3,h2⟩
structure PaAt (w:World) (M n:Nat) (zs:List (Int × Int × Int)):Prop where
 mp:∃ G,MpAt w 21 zeD M n G∧PaG zs G
structure JoAt (w:World) (M n:Nat) (zs:List (Int × Int × Int)):Prop where
 mp:∃ G,MpAt w 134 (plainElem Tryz.prog 21) M n G∧JoG zs G
theorem PaAt.below {w w':World} {M n:Nat} {zs:List (Int × Int × Int)} (h:PaAt w M n zs) (hb:Below w.heap.size w w'):PaAt w' M n zs:=by
 obtain ⟨G,h1,h2⟩:=h.mp
 exact ⟨G,h1.below hb,h2⟩
theorem JoAt.below {w w':World} {M n:Nat} {zs:List (Int × Int × Int)} (h:JoAt w M n zs) (hb:Below w.heap.size w w'):JoAt w' M n zs:=by
 obtain ⟨G,h1,h2⟩:=h.mp
 exact ⟨G,h1.below hb,h2⟩
noncomputable def reg16:Code:=match Tryz.f52.body with
 | some (.seq _ (.seq _ (.seq _ (.seq _ (.seq (.seq _ (.block _ (.loop (.seq _ (.seq _ (.seq (.block _ (.seq _ (.seq _ r))) _)))))) _))))) =>r
 | _ =>.skip
theorem PaAt.kept {w w':World} {M n N:Nat} {zs:List (Int × Int × Int)} (h:PaAt w M n zs) (hg:w.grownBy w' (some N)) (hne:M≠N):PaAt w' M n zs:=by
 obtain ⟨G,h1,h2⟩:=h.mp
 exact ⟨G,h1.kept hg (fun e =>hne (Option.some.inj e)),h2⟩
theorem JoAt.kept {w w':World} {M n N:Nat} {zs:List (Int × Int × Int)} (h:JoAt w M n zs) (hg:w.grownBy w' (some N)) (hne:M≠N):JoAt w' M n zs:=by
 obtain ⟨G,h1,h2⟩:=h.mp
 exact ⟨G,h1.kept hg (fun e =>hne (Option.some.inj e)),h2⟩
def EnP (w:World) (M k:Nat) (zs:List (Int × Int × Int)) (x:Int × Int × Int) (st:Nat):Prop := ∀ w2:World,w2.heap[M]?=w.heap[M]?→∃ w3,(Instr.entryStore 103 (.map (some M)) (goInt st) (.agg #[.int .i32 x.2.1,.int .i32 x.2.2])).run Tryz.prog w2=.ok () w3∧PaAt w3 M (k+1) (zs++[x])∧w2.grownBy w3 (some M)
def EnJ (w:World) (M k:Nat) (zs:List (Int × Int × Int)) (x:Int × Int × Int) (st:Nat):Prop := ∀ w2:World,w2.heap[M]?=w.heap[M]?→∃ w3,(Instr.entryStore 104 (.map (some M)) (goInt st) (.int .i32 x.1)).run Tryz.prog w2=.ok () w3∧JoAt w3 M (k+1) (zs++[x])∧w2.grownBy w3 (some M)
theorem zkP (u:World):(zeroValue 134).run Tryz.prog u=.ok (.agg #[.int .i32 0,.int .i32 0]) u:=by kernel_rfl
theorem zoa (u:World):(zeroValue 21).run Tryz.prog u=.ok (.int .i32 0) u:=by kernel_rfl
theorem PaAt.entry {w:World} {M k:Nat} {zs:List (Int × Int × Int)} {x:Int × Int × Int} (h:PaAt w M k zs) (hk:k≤1000000) (hx:R32 x.1):∃ (v0:Value) (st:Nat) (w1:World),(Instr.mapEntry 103 (.map (some M)) (.int .i32 x.1)).run Tryz.prog w=.ok (.tuple #[v0,goInt st]) w1∧w.grownBy w1 (some M)∧EnP w1 M k zs x st:=by
 obtain ⟨G,hm,hg⟩:=h.mp
 obtain ⟨v0,st,w1,h1,h2,h3⟩:=hm.entry (int_keyed Tryz.underlying21) Tryz.underlying103 (by unfold maxLen;omega) zkP (keyOf_int_mk Tryz.underlying21 (zi2 hx))
 refine ⟨v0,st,w1,h1,h2,fun w2 e2 =>?_⟩
 obtain ⟨w3,h4,h5,h6⟩:=h3 w2 _ _ _ e2 (zhW x.2.1 x.2.2)
 exact ⟨w3,h4,⟨_,h5,hg.put⟩,h6⟩
theorem JoAt.entry {w:World} {M k:Nat} {zs:List (Int × Int × Int)} {x:Int × Int × Int} (h:JoAt w M k zs) (hk:k≤1000000) (hx1:R32 x.1) (hx2:R32 x.2.1) (hx3:R32 x.2.2):∃ (v0:Value) (st:Nat) (w1:World),(Instr.mapEntry 104 (.map (some M)) (.agg #[.int .i32 x.2.1,.int .i32 x.2.2])).run Tryz.prog w=.ok (.tuple #[v0,goInt st]) w1∧w.grownBy w1 (some M)∧EnJ w1 M k zs x st:=by
 obtain ⟨G,hm,hg⟩:=h.mp
 have hkey:=WideMaps.keyOf_pair zrQ Tryz.underlying21 zgM (zi2 hx2) (zi2 hx3)
 obtain ⟨v0,st,w1,h1,h2,h3⟩:=hm.entry arr_keyed Tryz.underlying104 (by unfold maxLen;omega) zoa hkey
 refine ⟨v0,st,w1,h1,h2,fun w2 e2 =>?_⟩
 obtain ⟨w3,h4,h5,h6⟩:=h3 w2 _ _ _ e2 (plainElem_int (H:=Unit) Tryz.underlying21 (a:=x.1) (zi2 hx1))
 exact ⟨w3,h4,⟨_,h5,hg.put hkey⟩,h6⟩
structure XtS (M6 M7 k:Nat) (zs:List (Int × Int × Int)) (x:Int × Int × Int) (l:Array Bool) (U:Nat→Value) (w:World):Prop where
 c14:l.getD 14 false=false→l.getD 15 false=false
 c15:l.getD 15 false=false→l.getD 16 false=false
 c16:l.getD 16 false=false→l.getD 17 false=false
 c17:l.getD 17 false=false→l.getD 18 false=false
 a0:l.getD 14 false=false→PaAt w M6 k zs
 a1:l.getD 14 false=true→l.getD 16 false=false→∃ (v0:Value) (st:Nat),U 14=.tuple #[v0,goInt st]∧(l.getD 15 false=true→U 15=goInt st)∧EnP w M6 k zs x st
 a2:l.getD 16 false=true→PaAt w M6 (k+1) (zs++[x])
 b0:l.getD 17 false=false→JoAt w M7 k zs
 b1:l.getD 17 false=true→∃ (v0:Value) (st:Nat),U 17=.tuple #[v0,goInt st]∧(l.getD 18 false=true→U 18=goInt st)∧EnJ w M7 k zs x st
theorem XtS.pure {M6 M7 k:Nat} {zs:List (Int × Int × Int)} {x:Int × Int × Int} {l:Array Bool} {U:Nat→Value} {w:World} (h:XtS M6 M7 k zs x l U w) (i:Nat) (hi:i < 14) (v:Value):XtS M6 M7 k zs x (l.setIfInBounds i true) (zaa U i v) w:=by
 have g:∀ j,14≤j→(l.setIfInBounds i true).getD j false=l.getD j false:=fun j hj =>getD_set_ne false (by omega)
 have s:∀ j,14≤j→zaa U i v j=U j:=fun j hj =>za4 _ _ (by omega)
 refine ⟨?_, ?_, ?_, ?_, ?_, ?_, ?_, ?_, ?_⟩ <;> rw [g _ (by omega)]
 ·rw [g _ (by omega)];exact h.c14
 ·rw [g _ (by omega)];exact h.c15
 ·rw [g _ (by omega)];exact h.c16
 ·rw [g _ (by omega)];exact h.c17
 ·exact h.a0
 ·rw [g _ (by omega),g _ (by omega),s _ (by omega),s _ (by omega)];exact h.a1
 ·exact h.a2
 ·exact h.b0
 ·rw [g _ (by omega),s _ (by omega),s _ (by omega)];exact h.b1
theorem zcA {l:Array Bool} {i:Nat} (h:i < l.size):(l.setIfInBounds i true).getD i false=true:=by simp [h]
def paD (B Pb Qb M6 M7:Nat) (x1 x2 x3:Int):Nat→Value→World→Prop
 | 0,v,w =>v=.pointer (some ⟨B,0,none⟩)
 | 1,v,w =>v=.pointer (some ⟨B,0,none⟩)
 | 2,v,w =>v=.pointer (some ⟨B,13,none⟩)
 | 3,v,w =>v=.map (some M6)
 | 4,v,w =>v=.pointer (some ⟨Pb,0,none⟩)
 | 5,v,w =>v=.int .i32 x1
 | 6,v,w =>v=.pointer (some ⟨B,0,none⟩)
 | 7,v,w =>v=.pointer (some ⟨B,0,none⟩)
 | 8,v,w =>v=.pointer (some ⟨B,14,none⟩)
 | 9,v,w =>v=.map (some M7)
 | 10,v,w =>v=.agg #[.int .i32 x2,.int .i32 x3]
 | 11,v,w =>v=.agg #[.int .i32 x2,.int .i32 x3]
 | 12,v,w =>v=.pointer (some ⟨Pb,0,none⟩)
 | 13,v,w =>v=.int .i32 x1
 | _,v,w =>True
theorem zm0 {B Pb Qb M6 M7:Nat} {x1 x2 x3:Int} {w w':World}:∀ (j:Nat) (v:Value),paD B Pb Qb M6 M7 x1 x2 x3 j v w→paD B Pb Qb M6 M7 x1 x2 x3 j v w'
 | 0,v,h =>h
 | 1,v,h =>h
 | 2,v,h =>h
 | 3,v,h =>h
 | 4,v,h =>h
 | 5,v,h =>h
 | 6,v,h =>h
 | 7,v,h =>h
 | 8,v,h =>h
 | 9,v,h =>h
 | 10,v,h =>h
 | 11,v,h =>h
 | 12,v,h =>h
 | 13,v,h =>h
 | _+14,v,h =>trivial
theorem zfN {w w':World} {M A B:Nat} (hg:w.grownBy w' (some M)) (h:M=A∨M=B):KeptX (fun g =>g=A∨g=B) w w':=⟨hg.os,hg.tape,hg.output,hg.size,fun x hx hn =>hg.block x hx (fun e =>hn (by have:=Option.some.inj e;subst this;exact h))⟩
theorem zjz (a b:Value) (w:World):(Instr.extract (.tuple #[a,b]) 1).run Tryz.prog w=.ok b w:=by kernel_rfl
theorem zfn (n i:Nat):(Array.replicate n false).getD i false=false:=by
 rcases Nat.lt_or_ge i n with h' | h' <;> simp [h']
set_option maxRecDepth 100000 in
set_option maxHeartbeats 8000000 in
theorem zmS {wb:World} {B Pb Qb M6 M7 k:Nat} {x1 x2 x3:Int} {zs:List (Int × Int × Int)} {z0 z1 z2 z4 z5 z6 z7 z8 z11 z12 z13 z14 z15 z16 z17 z18 z19 z20 z21 z22 z23 z24 z25 z26 z27 z28 z29 z30 z31 z32 z33 z34 z35 z36 z37 z38 z39 z40 z41 z42 z43 z44 z45 z46 z47 z48 z49 z50 z51 z52 z53 z54 z55 z56 z57 z58 z59 z60 z61 z62 z63 z64 z65 z66 z67 z68 z69 z70 z71 z72 z73 z74 z75 z76 z77 z78 z79 z80 z81 z82 z83 z84 z85 z86 z87 z88 z89 z90 z91 z92 z93 z94 z95 z96 z97 z98 z99 z100:Value} {Q:Exit→Act→World→Prop} (hmx:Tryz.prog.follows .mixedOrders=true)
  (HF:Hz (∀ w2,KeptX (fun g =>g=M6∨g=M7) wb.drew w2→w2.cell? ⟨Pb,0,none⟩=some (.int .i32 x1)∧w2.cell? ⟨Qb,0,none⟩=some (.int .i32 x2)∧w2.cell? ⟨Qb,1,none⟩=some (.int .i32 x3)∧w2.cell? ⟨B,13,none⟩=some (.map (some M6))∧w2.cell? ⟨B,14,none⟩=some (.map (some M7))))
  (HX:Hz (R32 x1∧R32 x2∧R32 x3∧k≤1000000∧M6≠M7∧PaAt wb.drew M6 k zs∧JoAt wb.drew M7 k zs))
  (hQ:∀ (U:Nat→Value) (wn:World),Hz (PaAt wn M6 (k+1) (zs++[(x1,x2,x3)])∧JoAt wn M7 (k+1) (zs++[(x1,x2,x3)])∧KeptX (fun g =>g=M6∨g=M7) wb.drew wn)→Q .normal { tmps:=#[z0,z1,z2,.pointer (some ⟨B,0,none⟩),z4,z5,z6,z7,z8,.pointer (some ⟨Pb,0,none⟩),.pointer (some ⟨Qb,0,none⟩),z11,z12,z13,z14,z15,z16,z17,z18,z19,z20,z21,z22,z23,z24,z25,z26,z27,z28,z29,z30,z31,z32,z33,z34,z35,z36,z37,z38,z39,z40,z41,z42,z43,z44,z45,z46,z47,z48,z49,z50,z51,z52,z53,z54,z55,z56,z57,z58,z59,z60,z61,z62,z63,z64,z65,z66,z67,z68,z69,z70,z71,z72,z73,z74,z75,z76,z77,z78,z79,z80,U 0,U 1,U 2,U 3,U 4,U 5,U 6,U 7,U 8,U 9,U 10,U 11,U 12,U 13,U 14,U 15,U 17,U 18,z99,z100],defers := [] } wn) :
  Code.wp Tryz.prog reg16 Q { tmps:=#[z0,z1,z2,.pointer (some ⟨B,0,none⟩),z4,z5,z6,z7,z8,.pointer (some ⟨Pb,0,none⟩),.pointer (some ⟨Qb,0,none⟩),z11,z12,z13,z14,z15,z16,z17,z18,z19,z20,z21,z22,z23,z24,z25,z26,z27,z28,z29,z30,z31,z32,z33,z34,z35,z36,z37,z38,z39,z40,z41,z42,z43,z44,z45,z46,z47,z48,z49,z50,z51,z52,z53,z54,z55,z56,z57,z58,z59,z60,z61,z62,z63,z64,z65,z66,z67,z68,z69,z70,z71,z72,z73,z74,z75,z76,z77,z78,z79,z80,z81,z82,z83,z84,z85,z86,z87,z88,z89,z90,z91,z92,z93,z94,z95,z96,z97,z98,z99,z100],defers := [] } wb:=by
 have HQ:=kz hQ
 clear hQ
 delta reg16 Tryz.f52
 dsimp only
 refine zao hmx 19 (by decide) (by kernel_rfl) (by kernel_rfl) (fun l a wv => ∃ U:Nat→Value,a = { tmps:=#[z0,z1,z2,.pointer (some ⟨B,0,none⟩),z4,z5,z6,z7,z8,.pointer (some ⟨Pb,0,none⟩),.pointer (some ⟨Qb,0,none⟩),z11,z12,z13,z14,z15,z16,z17,z18,z19,z20,z21,z22,z23,z24,z25,z26,z27,z28,z29,z30,z31,z32,z33,z34,z35,z36,z37,z38,z39,z40,z41,z42,z43,z44,z45,z46,z47,z48,z49,z50,z51,z52,z53,z54,z55,z56,z57,z58,z59,z60,z61,z62,z63,z64,z65,z66,z67,z68,z69,z70,z71,z72,z73,z74,z75,z76,z77,z78,z79,z80,U 0,U 1,U 2,U 3,U 4,U 5,U 6,U 7,U 8,U 9,U 10,U 11,U 12,U 13,U 14,U 15,U 17,U 18,z99,z100],defers := [] }∧RgX wb.drew (fun g =>g=M6∨g=M7) (paD B Pb Qb M6 M7 x1 x2 x3) l U wv∧XtS M6 M7 k zs (x1,x2,x3) l U wv) ⟨fun x =>match x with | 0 =>z81 | 1 =>z82 | 2 =>z83 | 3 =>z84 | 4 =>z85 | 5 =>z86 | 6 =>z87 | 7 =>z88 | 8 =>z89 | 9 =>z90 | 10 =>z91 | 11 =>z92 | 12 =>z93 | 13 =>z94 | 14 =>z95 | 15 =>z96 | 17 =>z97 | 18 =>z98 | _ =>undef,rfl,RgX.start _ _,⟨fun _ =>zfn _ _,fun _ =>zfn _ _,fun _ =>zfn _ _,fun _ =>zfn _ _,fun _ =>(oz HX).2.2.2.2.2.1,fun h =>by (rw [zfn] at h;cases h),fun h =>by (rw [zfn] at h;cases h),fun _ =>(oz HX).2.2.2.2.2.2,fun h =>by (rw [zfn] at h;cases h)⟩⟩ ?_ ?_
 ·rintro l a wv i ⟨U,rfl,hJ,hE⟩ hl hi hif
  have h0:=(mem_ready.1 hi).1
  have hlt:=zdB hl h0
  have HJ:=kz hJ
  have HE:=kz hE
  have hl':l.size=20:=hl
  have HL:=kz hl'
  clear hJ hE hl hl'
  replace hlt:i < 20:=hlt
  obtain rfl | rfl | rfl | rfl | rfl | rfl | rfl | rfl | rfl | rfl | rfl | rfl | rfl | rfl | rfl | rfl | rfl | rfl | rfl:i=0∨i=1∨i=2∨i=3∨i=4∨i=5∨i=6∨i=7∨i=8∨i=9∨i=10∨i=11∨i=12∨i=13∨i=14∨i=15∨i=16∨i=17∨i=18:=by omega
  ·refine wpOp_step rfl (fun K hK =>?_)
   clear hlt hif
   go_simp
   exact hK _ _ ⟨zaa U 0 _,rfl,(oz HJ).same 0 _ rfl,(oz HE).pure 0 (by decide) _⟩
  ·refine wpOp_step rfl (fun K hK =>?_)
   clear hlt hif
   have d0:U 0=.pointer (some ⟨B,0,none⟩):=(oz HJ).val 0 (zab hi 0 (by kernel_rfl))
   go_simp
   exact hK _ _ ⟨zaa U 1 _,(by rw [zac d0];rfl),(oz HJ).same 1 _ rfl,(oz HE).pure 1 (by decide) _⟩
  ·refine wpOp_step rfl (fun K hK =>?_)
   clear hlt hif
   have d1:U 1=.pointer (some ⟨B,0,none⟩):=(oz HJ).val 1 (zab hi 1 (by kernel_rfl))
   go_simp
   exact hK _ _ ⟨zaa U 2 _,(by rw [zac d1];rfl),(oz HJ).same 2 _ rfl,(oz HE).pure 2 (by decide) _⟩
  ·refine wpOp_step rfl (fun K hK =>?_)
   clear hlt hif
   have d2:U 2=.pointer (some ⟨B,13,none⟩):=(oz HJ).val 2 (zab hi 2 (by kernel_rfl))
   have q6:=(oz HF wv (oz HJ).kp).2.2.2.1
   go_simp
   exact hK _ _ ⟨zaa U 3 _,(by rw [zac d2];rfl),(oz HJ).same 3 _ rfl,(oz HE).pure 3 (by decide) _⟩
  ·refine wpOp_step rfl (fun K hK =>?_)
   clear hlt hif
   go_simp
   exact hK _ _ ⟨zaa U 4 _,rfl,(oz HJ).same 4 _ rfl,(oz HE).pure 4 (by decide) _⟩
  ·refine wpOp_step rfl (fun K hK =>?_)
   clear hlt hif
   have d4:U 4=.pointer (some ⟨Pb,0,none⟩):=(oz HJ).val 4 (zab hi 4 (by kernel_rfl))
   have q0:=(oz HF wv (oz HJ).kp).1
   go_simp
   exact hK _ _ ⟨zaa U 5 _,(by rw [zac d4];rfl),(oz HJ).same 5 _ rfl,(oz HE).pure 5 (by decide) _⟩
  ·refine wpOp_step rfl (fun K hK =>?_)
   clear hlt hif
   go_simp
   exact hK _ _ ⟨zaa U 6 _,rfl,(oz HJ).same 6 _ rfl,(oz HE).pure 6 (by decide) _⟩
  ·refine wpOp_step rfl (fun K hK =>?_)
   clear hlt hif
   have d6:U 6=.pointer (some ⟨B,0,none⟩):=(oz HJ).val 6 (zab hi 6 (by kernel_rfl))
   go_simp
   exact hK _ _ ⟨zaa U 7 _,(by rw [zac d6];rfl),(oz HJ).same 7 _ rfl,(oz HE).pure 7 (by decide) _⟩
  ·refine wpOp_step rfl (fun K hK =>?_)
   clear hlt hif
   have d7:U 7=.pointer (some ⟨B,0,none⟩):=(oz HJ).val 7 (zab hi 7 (by kernel_rfl))
   go_simp
   exact hK _ _ ⟨zaa U 8 _,(by rw [zac d7];rfl),(oz HJ).same 8 _ rfl,(oz HE).pure 8 (by decide) _⟩
  ·refine wpOp_step rfl (fun K hK =>?_)
   clear hlt hif
   have d8:U 8=.pointer (some ⟨B,14,none⟩):=(oz HJ).val 8 (zab hi 8 (by kernel_rfl))
   have q7:=(oz HF wv (oz HJ).kp).2.2.2.2
   go_simp
   exact hK _ _ ⟨zaa U 9 _,(by rw [zac d8];rfl),(oz HJ).same 9 _ rfl,(oz HE).pure 9 (by decide) _⟩
  ·refine wpOp_step rfl (fun K hK =>?_)
   clear hlt hif
   have q1:=(oz HF wv (oz HJ).kp).2.1
   have q2:=(oz HF wv (oz HJ).kp).2.2.1
   go_simp
   exact hK _ _ ⟨zaa U 10 _,rfl,(oz HJ).same 10 _ rfl,(oz HE).pure 10 (by decide) _⟩
  ·refine wpOp_step rfl (fun K hK =>?_)
   clear hlt hif
   have q1:=(oz HF wv (oz HJ).kp).2.1
   have q2:=(oz HF wv (oz HJ).kp).2.2.1
   go_simp
   exact hK _ _ ⟨zaa U 11 _,rfl,(oz HJ).same 11 _ rfl,(oz HE).pure 11 (by decide) _⟩
  ·refine wpOp_step rfl (fun K hK =>?_)
   clear hlt hif
   go_simp
   exact hK _ _ ⟨zaa U 12 _,rfl,(oz HJ).same 12 _ rfl,(oz HE).pure 12 (by decide) _⟩
  ·refine wpOp_step rfl (fun K hK =>?_)
   clear hlt hif
   have d12:U 12=.pointer (some ⟨Pb,0,none⟩):=(oz HJ).val 12 (zab hi 12 (by kernel_rfl))
   have q0:=(oz HF wv (oz HJ).kp).1
   go_simp
   exact hK _ _ ⟨zaa U 13 _,(by rw [zac d12];rfl),(oz HJ).same 13 _ rfl,(oz HE).pure 13 (by decide) _⟩
  ·refine wpOp_step rfl (fun K hK =>?_)
   clear hlt hif
   have d3:U 3=.map (some M6):=(oz HJ).val 3 (zab hi 3 (by kernel_rfl))
   have d5:U 5=.int .i32 x1:=(oz HJ).val 5 (zab hi 5 (by kernel_rfl))
   have n14:l.getD 14 false=false:=by rw [← zdu (by rw [oz HL];decide)];exact h0
   have n15:=(oz HE).c14 n14
   have n16:=(oz HE).c15 n15
   have n17:=(oz HE).c16 n16
   obtain ⟨v0,st,w1,hr,hg,hen⟩:=((oz HE).a0 n14).entry (x:=(x1,x2,x3)) (oz HX).2.2.2.1 (oz HX).1
   dsimp only at hr
   have HR:=kz (And.intro hg hen)
   clear hg hen
   have HN:=kz (And.intro n15 (And.intro n16 n17))
   clear n15 n16 n17
   go_simp
   obtain ⟨n15,n16,n17⟩:=oz HN
   refine hK _ _ ⟨zaa U 14 (.tuple #[v0,goInt st]),(by rw [zac d3,zac d5];rfl),(oz HJ).put 14 _ (zfN (oz HR).1 (.inl rfl)) (fun j _ _ hD =>zm0 j _ hD) trivial, ?_⟩
   refine ⟨fun h =>?_,fun _ =>by rw [getD_set_ne false (show (14:Nat)≠16 by decide)];exact n16,fun _ =>by rw [getD_set_ne false (show (14:Nat)≠17 by decide)];exact n17,fun _ =>by rw [getD_set_ne false (show (14:Nat)≠18 by decide)];exact (oz HE).c17 n17,fun h =>?_,fun _ _ =>⟨v0,st,zaZ _ _ _,fun h =>?_,(oz HR).2⟩,fun h =>?_,fun _ =>((oz HE).b0 n17).kept (oz HR).1 (oz HX).2.2.2.2.1.symm,fun h =>?_⟩
   ·rw [zcA (by rw [oz HL];decide)] at h;cases h
   ·rw [zcA (by rw [oz HL];decide)] at h;cases h
   ·rw [getD_set_ne false (show (14:Nat)≠15 by decide),n15] at h;cases h
   ·rw [getD_set_ne false (show (14:Nat)≠16 by decide),n16] at h;cases h
   ·rw [getD_set_ne false (show (14:Nat)≠17 by decide),n17] at h;cases h
  ·refine wpOp_step rfl (fun K hK =>?_)
   clear hlt hif
   have n15:l.getD 15 false=false:=by rw [← zdu (by rw [oz HL];decide)];exact h0
   have l14:=zab hi 14 (by kernel_rfl)
   have n16:=(oz HE).c15 n15
   have n17:=(oz HE).c16 n16
   obtain ⟨v0,st,d14,_,hen⟩:=(oz HE).a1 l14 n16
   have HR:=kz hen
   clear hen
   have hx1:=zjz v0 (goInt st) wv
   have HN:=kz (And.intro l14 (And.intro n16 n17))
   clear l14 n16 n17
   go_simp
   obtain ⟨l14,n16,n17⟩:=oz HN
   refine hK _ _ ⟨zaa U 15 (goInt st),(by rw [zac d14];rfl),(oz HJ).same 15 _ trivial, ?_⟩
   refine ⟨fun h =>?_,fun h =>?_,fun _ =>by rw [getD_set_ne false (show (15:Nat)≠17 by decide)];exact n17,fun _ =>by rw [getD_set_ne false (show (15:Nat)≠18 by decide)];exact (oz HE).c17 n17,fun h =>?_,fun _ _ =>⟨v0,st,(by rw [za4 _ _ (show (14:Nat)≠15 by decide)];exact d14),fun _ =>zaZ _ _ _,oz HR⟩,fun h =>?_,fun _ =>(oz HE).b0 n17,fun h =>?_⟩
   ·rw [getD_set_ne false (show (15:Nat)≠14 by decide),l14] at h;cases h
   ·rw [zcA (by rw [oz HL];decide)] at h;cases h
   ·rw [getD_set_ne false (show (15:Nat)≠14 by decide),l14] at h;cases h
   ·rw [getD_set_ne false (show (15:Nat)≠16 by decide),n16] at h;cases h
   ·rw [getD_set_ne false (show (15:Nat)≠17 by decide),n17] at h;cases h
  ·refine wpOp_step rfl (fun K hK =>?_)
   clear hlt hif
   have d3:U 3=.map (some M6):=(oz HJ).val 3 (zab hi 3 (by kernel_rfl))
   have d11:U 11=.agg #[.int .i32 x2,.int .i32 x3]:=(oz HJ).val 11 (zab hi 11 (by kernel_rfl))
   have n16:l.getD 16 false=false:=by rw [← zdu (by rw [oz HL];decide)];exact h0
   have l14:=zab hi 14 (by kernel_rfl)
   have l15:=zab hi 15 (by kernel_rfl)
   have n17:=(oz HE).c16 n16
   obtain ⟨v0,st,d14,d15,hen⟩:=(oz HE).a1 l14 n16
   have d15:U 15=.int .i64 (st:Int):=d15 l15
   obtain ⟨w3,hr,hpa,hg⟩:=hen wv rfl
   unfold goInt at hr
   dsimp only at hr
   have HR:=kz (And.intro hpa hg)
   clear hpa hg hen d14
   have HN:=kz (And.intro l14 (And.intro l15 n17))
   clear l14 l15 n17
   go_simp
   obtain ⟨l14,l15,n17⟩:=oz HN
   refine hK _ _ ⟨zaa U 16 undef,(by rw [zac d3,zac d11,zac d15];rfl),(oz HJ).put 16 _ (zfN (oz HR).2 (.inl rfl)) (fun j _ _ hD =>zm0 j _ hD) trivial, ?_⟩
   refine ⟨fun h =>?_,fun h =>?_,fun h =>?_,fun _ =>by rw [getD_set_ne false (show (16:Nat)≠18 by decide)];exact (oz HE).c17 n17,fun h =>?_,fun _ h =>?_,fun _ =>(oz HR).1,fun _ =>((oz HE).b0 n17).kept (oz HR).2 (oz HX).2.2.2.2.1.symm,fun h =>?_⟩
   ·rw [getD_set_ne false (show (16:Nat)≠14 by decide),l14] at h;cases h
   ·rw [getD_set_ne false (show (16:Nat)≠15 by decide),l15] at h;cases h
   ·rw [zcA (by rw [oz HL];decide)] at h;cases h
   ·rw [getD_set_ne false (show (16:Nat)≠14 by decide),l14] at h;cases h
   ·rw [zcA (by rw [oz HL];decide)] at h;cases h
   ·rw [getD_set_ne false (show (16:Nat)≠17 by decide),n17] at h;cases h
  ·refine wpOp_step rfl (fun K hK =>?_)
   clear hlt hif
   have d9:U 9=.map (some M7):=(oz HJ).val 9 (zab hi 9 (by kernel_rfl))
   have d10:U 10=.agg #[.int .i32 x2,.int .i32 x3]:=(oz HJ).val 10 (zab hi 10 (by kernel_rfl))
   have n17:l.getD 17 false=false:=by rw [← zdu (by rw [oz HL];decide)];exact h0
   have l16:=zab hi 16 (by kernel_rfl)
   have n18:=(oz HE).c17 n17
   obtain ⟨v0,st,w1,hr,hg,hen⟩:=((oz HE).b0 n17).entry (x:=(x1,x2,x3)) (oz HX).2.2.2.1 (oz HX).1 (oz HX).2.1 (oz HX).2.2.1
   dsimp only at hr
   have HR:=kz (And.intro hg hen)
   clear hg hen
   have HN:=kz (And.intro l16 n18)
   clear l16 n18
   go_simp
   obtain ⟨l16,n18⟩:=oz HN
   have c16:l.getD 16 false=true:=l16
   refine hK _ _ ⟨zaa U 17 (.tuple #[v0,goInt st]),(by rw [zac d9,zac d10];rfl),(oz HJ).put 17 _ (zfN (oz HR).1 (.inr rfl)) (fun j _ _ hD =>zm0 j _ hD) trivial, ?_⟩
   have g:∀ j,j≠17→(l.setIfInBounds 17 true).getD j false=l.getD j false:=fun j hj =>getD_set_ne false (Ne.symm hj)
   refine ⟨fun h =>?_,fun h =>?_,fun h =>?_,fun h =>?_,fun h =>?_,fun _ h =>?_,fun _ =>((oz HE).a2 l16).kept (oz HR).1 (oz HX).2.2.2.2.1,fun h =>?_,fun _ =>⟨v0,st,zaZ _ _ _,fun h =>?_,(oz HR).2⟩⟩
   ·rw [g 14 (by decide)] at h;rw [g 15 (by decide)];exact (oz HE).c14 h
   ·rw [g 15 (by decide)] at h;rw [g 16 (by decide)];exact (oz HE).c15 h
   ·rw [g 16 (by decide),l16] at h;cases h
   ·rw [zcA (by rw [oz HL];decide)] at h;cases h
   ·rw [g 14 (by decide)] at h;exact absurd ((oz HE).c15 ((oz HE).c14 h)) (by rw [l16];decide)
   ·rw [g 16 (by decide),l16] at h;cases h
   ·rw [zcA (by rw [oz HL];decide)] at h;cases h
   ·rw [g 18 (by decide),n18] at h;cases h
  ·refine wpOp_step rfl (fun K hK =>?_)
   clear hlt hif
   have l17:=zab hi 17 (by kernel_rfl)
   obtain ⟨v0,st,d17,_,hen⟩:=(oz HE).b1 l17
   have HR:=kz hen
   clear hen
   have hx1:=zjz v0 (goInt st) wv
   have HN:=kz l17
   clear l17
   go_simp
   have l17:=oz HN
   refine hK _ _ ⟨zaa U 18 (goInt st),(by rw [zac d17];rfl),(oz HJ).same 18 _ trivial, ?_⟩
   have g:∀ j,j≠18→(l.setIfInBounds 18 true).getD j false=l.getD j false:=fun j hj =>getD_set_ne false (Ne.symm hj)
   have l16:l.getD 16 false=true:=by
    cases hq:l.getD 16 false with
    | true =>rfl
    | false =>exact absurd ((oz HE).c16 hq) (by rw [l17];decide)
   refine ⟨fun h =>?_,fun h =>?_,fun h =>?_,fun h =>?_,fun h =>?_,fun _ h =>?_,fun _ =>(oz HE).a2 l16,fun h =>?_,fun _ =>⟨v0,st,(by rw [za4 _ _ (show (17:Nat)≠18 by decide)];exact d17),fun _ =>zaZ _ _ _,oz HR⟩⟩
   ·rw [g 14 (by decide)] at h;rw [g 15 (by decide)];exact (oz HE).c14 h
   ·rw [g 15 (by decide)] at h;rw [g 16 (by decide)];exact (oz HE).c15 h
   ·rw [g 16 (by decide),l16] at h;cases h
   ·rw [g 17 (by decide),l17] at h;cases h
   ·rw [g 14 (by decide)] at h;exact absurd ((oz HE).c15 ((oz HE).c14 h)) (by rw [l16];decide)
   ·rw [g 16 (by decide),l16] at h;cases h
   ·rw [g 17 (by decide),l17] at h;cases h
 ·rintro l a wv ⟨U,rfl,hJ,hE⟩ hall
  have d9:U 9=.map (some M7):=hJ.val 9 (hall 9 (by decide) (by decide))
  have d13:U 13=.int .i32 x1:=hJ.val 13 (hall 13 (by decide) (by decide))
  obtain ⟨v0,st,d17,d18,hen⟩:=hE.b1 (hall 17 (by decide) (by decide))
  have d18:U 18=.int .i64 (st:Int):=d18 (hall 18 (by decide) (by decide))
  obtain ⟨w3,hr,hjo,hg⟩:=hen wv rfl
  unfold goInt at hr
  dsimp only at hr
  have HN:Hz (PaAt w3 M6 (k+1) (zs++[(x1,x2,x3)])∧JoAt w3 M7 (k+1) (zs++[(x1,x2,x3)])∧KeptX (fun g =>g=M6∨g=M7) wb.drew w3):=kz ⟨(hE.a2 (hall 16 (by decide) (by decide))).kept hg (oz HX).2.2.2.2.1,hjo,hJ.kp.trans (zfN hg (.inr rfl))⟩
  clear hJ hE hall hen hjo hg d17
  refine wpOp_step rfl (fun K hK =>?_)
  go_simp
  have e:=oz HQ U _ HN
  rw [d9,d13,d18] at e
  exact hK _ _ e
end Go.Proofs.YtmemedpoaocdkaaGreat
