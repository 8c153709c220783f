/- Texts of this claim, one behind the other. -/
import Derived.Test.YtoaiicbicdhkkaaGreatM1
import Derived.RangeFuncNested
import Derived.Lib.QuietBelow
import Derived.BigQuiet
import Derived.Maps.AppendAt
import Derived.Deep.QuietTactic
import Derived.Laws.StructEq
import Derived.WalkKit
import Derived.BigRegion
import Derived.Laws.OwnMore
import Derived.Deep.AppendLies
import Derived.Deep.RegionLaw
import Derived.Lib.UnsafeStr
import Derived.Lib.Builder
import Derived.Lib.AppendStr
import Derived.Laws.Bits64b
import Derived.Laws.IdiomStrings
import Derived.Test.YtoaiicbicdhkkaaGreatShB
import Derived.ScopeJumps
import Derived.WalkMore
import Derived.Deep.RegionWith
import Derived.OwnWalk
import Derived.Test.YtoaiicbicdhkkaaGreatShC
import Derived.Laws.Cover4
import Derived.Test.YtoaiicbicdhkkaaGreatShK
import Derived.Test.YtoaiicbicdhkkaaGreatShD
import Derived.Lib.ItoaLen
import Derived.Lib.AppendIntMem
import Derived.Test.YtoaiicbicdhkkaaGreatShV
/- A range over a function that may hold ranges of its own: the caller's state speaks of blocks older than the call alone; a round leaves all that is newer as it is. -/
namespace Go.Proofs.YtoaiicbicdhkkaaGreat
open Go.RowKit Go.Shelf
set_option linter.unusedVariables false
structure Above (B:Nat) (W W':World):Prop where
 size:W.heap.size≤W'.heap.size
 same:∀ k,B≤k→k < W.heap.size→W'.heap[k]?=W.heap[k]?
theorem Above.refl (B:Nat) (W:World):Above B W W:=⟨Nat.le_refl _,fun _ _ _ =>rfl⟩
theorem Above.trans {B:Nat} {X Y Z:World} (h:Above B X Y) (k:Above B Y Z):Above B X Z:=⟨Nat.le_trans h.size k.size,fun i hB hi =>(k.same i hB (by have:=h.size;omega)).trans (h.same i hB hi)⟩
theorem Above.mono {B B':Nat} {X Y:World} (h:Above B X Y) (hB:B≤B'):Above B' X Y:=⟨h.size,fun i hi hk =>h.same i (by omega) hk⟩
theorem Above.below {B:Nat} {X Y:World} (h:Below X.heap.size X Y):Above B X Y:=⟨h.size,fun k _ hk =>h.block k hk⟩
theorem Above.set {B b i:Nat} {X Y:World} (h:Above B X Y) (hb:b < B) (v:Value):Above B X (Y.setCell ⟨b,i,none⟩ v):=h.trans ⟨(KeepsWalks.setCell Y _ v).size,fun k hk _ =>Below.heap_setCell Y ⟨b,i,none⟩ v k (by show k≠b;omega)⟩
theorem Above.put {B l:Nat} {X Y:World} (h:Above B X Y) (hl:l < B) (o:Obj):Above B X (Y.putObj l o):=h.trans ⟨by simp,fun k hk _ =>World.putObj_heap_other (by omega)⟩
theorem zca {B l:Nat} (W:World) (hl:B≤l) (o:Obj):Below B W (W.putObj l o):=⟨rfl,rfl,rfl,by simp,fun k hk =>World.putObj_heap_other (by omega)⟩
def Old {β : Type} (B:Nat) (I : β→World→Prop):Prop := ∀ s X Y,I s X→Below B X Y→I s Y
def zhb {α : Type} (F:Fence) (n:Nat) (P:Program) (g:Nat) (lb:Array Value) (encs : α→Array Value) (Kp:World→World→Prop) (S Sp:List α→Prop) (Nx:List α→α→Prop) (w:World):Prop :=
 ∀ (l:Nat) (J Jx:List α→World→Prop) (W:World),Below w.heap.size w W→Old W.heap.size J→Old W.heap.size Jx →
  (∀ pre x W1,J pre W1→Nx pre x→W.heap.size≤W1.heap.size→YieldAt F (n - 1) P l (encs x) W1 fun e W' =>Above W.heap.size W1 W' ∧
   ((e=.returned (.bool true)∧J (pre++[x]) W'∧Kp W1 W')∨(e=.returned (.bool false)∧Jx (pre++[x]) W'))) →
  J [] W→CallsIn F n P g (#[.func (.yield l) #[] #[]]++lb) W fun e W' =>(∃ v,e=.returned v)∧((∃ xs,S xs∧J xs W')∨(∃ pre,Sp pre∧Jx pre W'))
def deepPost {α : Type} (B:Nat) (Kp:World→World→Prop) (I:List α→World→Prop) (Ix:Code→List α→World→Prop) (xs:List α) (W:World):Exit→Act→World→Prop
 | .normal,_,W' =>Above B W W'∧Kp W W'∧I xs W'
 | .ret,_,W' =>Above B W W'∧Ix .ret xs W'
 | .exit id,_,W' =>Above B W W'∧Ix (.exit id) xs W'
 | .goto t,_,W' =>Above B W W'∧Ix (.goto t) xs W'
 | .panic _,_,_ =>False
 | .outgrown,_,_ =>False
section
variable {F:Fence} {n:Nat} {P:Program}
theorem end_round {l D:Nat} {r:Loop} {Wr W3:World} {B:Nat} (hl:Wr.heap[l]?=some (.loop r)) (hD:Wr.heap[D]?=some (.deferred (some []))) (hlD:l≠D) (hBl:B≤l) (hBD:B≤D) (h:Above B Wr W3) (jump:Option Code) :
  (Instr.endRound l jump).run P W3=.ok (.bool jump.isNone) (W3.putObj l (.loop { r with state:=if jump.isNone then .ready else .done,pending:=jump })) ∧
  (W3.putObj l (.loop { r with state:=if jump.isNone then .ready else .done,pending:=jump })).heap[l]?=some (.loop { r with state:=if jump.isNone then .ready else .done,pending:=jump }) ∧
  (W3.putObj l (.loop { r with state:=if jump.isNone then .ready else .done,pending:=jump })).heap[D]?=some (.deferred (some [])):=by
 have h1:=(h.same l hBl (Array.getElem?_eq_some_iff.1 hl).1).trans hl
 have h2:=(h.same D hBD (Array.getElem?_eq_some_iff.1 hD).1).trans hD
 exact ⟨run_endRound jump h1,World.putObj_heap_same (Array.getElem?_eq_some_iff.1 h1).1,(World.putObj_heap_other (Ne.symm hlD)).trans h2⟩
def Booked (B:Nat) (st:LoopState) (pe:Option Code) (r:Loop) (W:World):Prop:=W.heap[B+1]?=some (.loop { r with state:=st,pending:=pe })∧W.heap[B]?=some (.deferred (some []))
theorem Booked.below {B:Nat} {st:LoopState} {pe:Option Code} {r:Loop} {X Y:World} (h:Booked B st pe r X) (hb:Below (B+2) X Y):Booked B st pe r Y:=⟨(hb.block _ (by omega)).trans h.1,(hb.block _ (by omega)).trans h.2⟩
theorem zc3 {α : Type} {g:Operand} {ps:Array Tmp} {assign body:Code} {Q:Exit→Act→World→Prop} {a:Act} {w:World}
  (hro:F.round=none) (h1:1≤n) {gf:Nat} {lb:Array Value} (hg:a.eval g=.func (.func gf) #[] lb) (hFg:F.fn gf) (eg:∀ args w,(callFunc gf args).run P w=.ok (.enter gf args) w)
  {encs : α→Array Value} {Kp:World→World→Prop} {S Sp:List α→Prop} {Nx:List α→α→Prop} {w0:World} (hseq:zhb F (n - 1) P gf lb encs Kp S Sp Nx w0)
  (hKt:∀ {A B C:World},Kp A B→Kp B C→Kp A C) (hKb:∀ (W:World) (l:Nat) (o:Obj),w.heap.size≤l→Kp W (W.putObj l o)) (hb0:Below w0.heap.size w0 w) (hps:∀ x,(encs x).size=ps.size)
  (I:List α→World→Prop) (Ix:Code→List α→World→Prop) (hI:Old w.heap.size I) (hIx:∀ c,Old w.heap.size (Ix c)) (h0:I [] w)
  (hround : ∀ (pre : List α) (x : α) (W : World), I pre W → Nx pre x → w.heap.size + 2 ≤ W.heap.size →
    assign.wpIn (F.inRound (w.heap.size+1)) (n - 1 - 1) P (Exit.then (fun a' Wa =>Above w.heap.size W Wa∧Kp W Wa∧I pre Wa ∧
      (∀ Wr,Wa.grownBy Wr (some (w.heap.size+1))→Wr.heap.size=Wa.heap.size→I pre Wr→body.wpIn (F.inRound (w.heap.size+1)) (n - 1 - 1) P (deepPost w.heap.size Kp I Ix (pre++[x]) Wr) a' Wr)) (fun _ _ _ =>False))
      { tmps:=(ps.zip (encs x)).foldl (fun t (p,v) =>t.setIfInBounds p v) a.tmps,defers := [] } W)
  (hdone:∀ (D:Nat) (xs:List α) (W:World),w.heap.size≤D→S xs→I xs W→W.heap[D]?=some (.deferred (some []))→Q .normal { a with defers:={ target := .collected D,args:=#[] } :: a.defers } W)
  (hstop:∀ (D:Nat) (c:Code) (pre:List α) (W:World),w.heap.size≤D→Sp pre→Ix c pre W→W.heap[D]?=some (.deferred (some []))→c.wpIn F n P Q { a with defers:={ target := .collected D,args:=#[] } :: a.defers } W) :
  (Code.rangeFunc g ps assign body).wpIn F n P Q a w:=by
 refine wpIn_rangeFunc fun fn hfn =>?_
 rw [hro]
 obtain ⟨r,hr⟩:∃ r:Loop,r = { state := .ready,pending:=none,fn,tmps:=a.tmps,params:=ps,assign,body,defers:=w.heap.size }:=⟨_,rfl⟩
 have r1:r.state=.ready:=by rw [hr]
 have r2:r.pending=none:=by rw [hr]
 obtain ⟨W1,hW1⟩:∃ W1,W1=(w.alloc (.deferred (some []))).alloc (.loop r):=⟨_,rfl⟩
 have hsz:W1.heap.size=w.heap.size+2:=by rw [hW1];simp
 have hbw:Below w.heap.size w W1:=by rw [hW1];exact ((Below.refl _ w).alloc (Nat.le_refl _) _).alloc (by simp) _
 have hre : { r with state := .ready,pending:=none }=r:=by rw [hr]
 have hbk:Booked w.heap.size .ready none r W1:=by
  refine ⟨?_, ?_⟩
  ·rw [hre,hW1]
   have:=World.alloc_heap_new (w.alloc (.deferred (some []))) (.loop r)
   rwa [World.size_alloc] at this
  ·rw [hW1]
   exact (Below.heap_alloc _ _ _ (by simp)).trans (World.alloc_heap_new w _)
 refine ⟨w.heap.size+1,[{ target := .collected w.heap.size,args:=#[] }],W1, { target := .fn (.func gf) lb,args:=#[.func (.yield (w.heap.size+1)) #[] #[]] },W1,gf,#[.func (.yield (w.heap.size+1)) #[] #[]]++lb,W1, ?_, ?_, ?_, ?_,fun _ =>h1, ?_⟩
 ·rw [hW1,hr]
  exact run_enterLoop_outer _ _ _ _ _
 ·simp only [resolve,hg]
  simp [go_sem]
 ·intro f' hf'
  simp [Target.leads] at hf'
  subst hf'
  exact hFg
 ·simp [invoke,go_sem,eg]
 ·refine (hseq (w.heap.size+1) (fun pre W =>I pre W∧Booked w.heap.size .ready none r W) (fun pre W => ∃ c,Ix c pre W∧Booked w.heap.size .done (some c) r W) W1 (hb0.trans (hbw.mono hb0.size))
   (fun s X Y hs hb =>⟨hI s X Y hs.1 (hb.mono (by omega)),hs.2.below (by rw [← hsz];exact hb)⟩)
   (fun s X Y hs hb =>by obtain ⟨c,h1,h2⟩:=hs;exact ⟨c,hIx c s X Y h1 (hb.mono (by omega)),h2.below (by rw [← hsz];exact hb)⟩) ?_ ⟨hI [] w W1 h0 hbw,hbk⟩).mono ?_
  ·rintro pre x W ⟨hi,hl,hd⟩ hlen hge
   rw [hre] at hl
   have hy:=run_yield (P:=P) (args:=encs x) hl (by rw [hr];exact hps x)
   refine ⟨r.fn,_,r.assign,r.body,hy,roundIn_of_wpIn (by rw [hr];exact hfn) ?_⟩
   rw [show r.params=ps by rw [hr],show r.tmps=a.tmps by rw [hr],show r.assign=assign by rw [hr],show r.body=body by rw [hr]]
   refine wpIn_mono (hround pre x W hi hlen (by omega)) ?_
   intro e a' Wa hp
   cases e with
   | normal =>
    obtain ⟨hab,hkp,hia,hgo⟩:=hp
    have hl':=(hab.same _ (by omega) (Array.getElem?_eq_some_iff.1 hl).1).trans hl
    have hd':=(hab.same _ (Nat.le_refl _) (Array.getElem?_eq_some_iff.1 hd).1).trans hd
    refine ⟨_,run_beginRound hl' r1, ?_⟩
    have hgw:=grownBy_putObj' Wa (w.heap.size+1) (.loop { r with state := .busy })
    obtain ⟨Wr,hWr⟩:∃ Wr,Wr=Wa.putObj (w.heap.size+1) (.loop { r with state := .busy }):=⟨_,rfl⟩
    rw [← hWr] at hgw ⊢
    have hlr:Wr.heap[w.heap.size+1]?=some (.loop { r with state := .busy }):=by rw [hWr];exact World.putObj_heap_same (Array.getElem?_eq_some_iff.1 hl').1
    have hdr:Wr.heap[w.heap.size]?=some (.deferred (some [])):=by rw [hWr];exact (World.putObj_heap_other (by omega)).trans hd'
    have hkr:Kp Wa Wr:=by rw [hWr];exact hKb _ _ _ (by omega)
    have har:Above W1.heap.size W Wr:=by rw [hWr];exact (hab.mono (by omega)).put (by omega) _
    have hir:I pre Wr:=hI _ _ _ hia (by rw [hWr];exact zca Wa (by omega) _)
    refine wpIn_mono (hgo Wr hgw (by rw [hWr];simp) hir) ?_
    intro e a3 W3 hp
    have fin:∀ jump:Option Code,Above w.heap.size Wr W3→(Instr.endRound (w.heap.size+1) jump).run P W3=.ok (.bool jump.isNone) (W3.putObj (w.heap.size+1) (.loop { r with state:=if jump.isNone then .ready else .done,pending:=jump }))∧Booked w.heap.size (if jump.isNone then .ready else .done) jump r (W3.putObj (w.heap.size+1) (.loop { r with state:=if jump.isNone then .ready else .done,pending:=jump }))∧Above W1.heap.size W (W3.putObj (w.heap.size+1) (.loop { r with state:=if jump.isNone then .ready else .done,pending:=jump })):=fun jump h =>by
     have q:=end_round (P:=P) hlr hdr (by omega) (by omega) (Nat.le_refl _) h jump
     exact ⟨q.1,⟨q.2.1,q.2.2⟩,(har.trans (h.mono (by omega))).put (by omega) _⟩
    cases e with
    | normal =>
     obtain ⟨p1,p2,p3⟩:=hp
     obtain ⟨q1,q2,q3⟩:=fin none p1
     exact ⟨_,_,q1,q3,.inl ⟨rfl,⟨hI _ _ _ p3 (zca W3 (by omega) _),q2⟩,hKt hkp (hKt hkr (hKt p2 (hKb _ _ _ (by omega))))⟩⟩
    | ret =>
     obtain ⟨p1,p3⟩:=hp
     obtain ⟨q1,q2,q3⟩:=fin (some .ret) p1
     exact ⟨_,_,q1,q3,.inr ⟨rfl,.ret,hIx _ _ _ _ p3 (zca W3 (by omega) _),q2⟩⟩
    | exit id =>
     obtain ⟨p1,p3⟩:=hp
     obtain ⟨q1,q2,q3⟩:=fin (some (.exit id)) p1
     exact ⟨_,_,q1,q3,.inr ⟨rfl,.exit id,hIx _ _ _ _ p3 (zca W3 (by omega) _),q2⟩⟩
    | goto t =>
     obtain ⟨p1,p3⟩:=hp
     obtain ⟨q1,q2,q3⟩:=fin (some (.goto t)) p1
     exact ⟨_,_,q1,q3,.inr ⟨rfl,.goto t,hIx _ _ _ _ p3 (zca W3 (by omega) _),q2⟩⟩
    | panic ch =>exact hp.elim
    | outgrown =>exact hp.elim
   | ret =>exact hp.elim
   | exit id =>exact hp.elim
   | goto t =>exact hp.elim
   | panic ch =>exact hp.elim
   | outgrown =>exact hp.elim
  ·rintro e W2 ⟨⟨v,rfl⟩,(⟨xs,hS,hi,hb⟩ | ⟨pre,hSp,c,hi,hb⟩)⟩
   ·exact ⟨none,_,run_endLoop (P:=P) hb.1 (by simp),hdone _ xs _ (Nat.le_refl _) hS (hI _ _ _ hi (zca W2 (by omega) _)) ((World.putObj_heap_other (by omega)).trans hb.2)⟩
   ·exact ⟨some c,_,run_endLoop (P:=P) hb.1 (by simp),hstop _ c pre _ (Nat.le_refl _) hSp (hIx c _ _ _ hi (zca W2 (by omega) _)) ((World.putObj_heap_other (by omega)).trans hb.2)⟩
end




theorem ze4 {B:Nat} {a w:World} (h:Below B a w) (n:Nat):Below B a (w.drewN n):=h.trans ⟨rfl,rfl,rfl,Nat.le_refl _,fun _ _ =>rfl⟩
theorem zbo {a b c:World} {row:Option Nat} (h:a.grownBy b row) (k:b.grownBy c row):a.grownBy c row :=
 ⟨k.os.trans h.os,k.tape.trans h.tape,k.output.trans h.output,Nat.le_trans h.size k.size,fun i hi hn =>(k.block i (by have:=h.size;omega) hn).trans (h.block i hi hn)⟩
theorem zaI (W:World) (B i:Nat) (v:Value):W.grownBy (W.setCell ⟨B,i,none⟩ v) (some B):=⟨rfl,rfl,rfl,(KeepsWalks.setCell W _ _).size,fun k hk hn =>Below.heap_setCell W ⟨B,i,none⟩ _ k (fun e =>hn (by rw [e]))⟩
theorem box8 {W:World} {N:Nat} {a0 a1 a2 a3 a4 a5 a6 a7:Value} {ty:TypeId} (h:Blk W N #[a0,a1,a2,a3,a4,a5,a6,a7] ty) (v0 v1 v2 v3 v4 v5 v6 v7:Value):Blk ((((((((W.setCell ⟨N,0,none⟩ v0).setCell ⟨N,1,none⟩ v1).setCell ⟨N,2,none⟩ v2).setCell ⟨N,3,none⟩ v3).setCell ⟨N,4,none⟩ v4).setCell ⟨N,5,none⟩ v5).setCell ⟨N,6,none⟩ v6).setCell ⟨N,7,none⟩ v7) N #[v0,v1,v2,v3,v4,v5,v6,v7] ty:=by
 have h0:Blk (_:World) N #[v0,a1,a2,a3,a4,a5,a6,a7] ty:=h.set 0 v0
 have h1:Blk (_:World) N #[v0,v1,a2,a3,a4,a5,a6,a7] ty:=h0.set 1 v1
 have h2:Blk (_:World) N #[v0,v1,v2,a3,a4,a5,a6,a7] ty:=h1.set 2 v2
 have h3:Blk (_:World) N #[v0,v1,v2,v3,a4,a5,a6,a7] ty:=h2.set 3 v3
 have h4:Blk (_:World) N #[v0,v1,v2,v3,v4,a5,a6,a7] ty:=h3.set 4 v4
 have h5:Blk (_:World) N #[v0,v1,v2,v3,v4,v5,a6,a7] ty:=h4.set 5 v5
 have h6:Blk (_:World) N #[v0,v1,v2,v3,v4,v5,v6,a7] ty:=h5.set 6 v6
 have h7:Blk (_:World) N #[v0,v1,v2,v3,v4,v5,v6,v7] ty:=h6.set 7 v7
 exact h7
theorem grown8 (W:World) (N:Nat) (v0 v1 v2 v3 v4 v5 v6 v7:Value):W.grownBy ((((((((W.setCell ⟨N,0,none⟩ v0).setCell ⟨N,1,none⟩ v1).setCell ⟨N,2,none⟩ v2).setCell ⟨N,3,none⟩ v3).setCell ⟨N,4,none⟩ v4).setCell ⟨N,5,none⟩ v5).setCell ⟨N,6,none⟩ v6).setCell ⟨N,7,none⟩ v7) (some N) :=
 zbo (zbo (zbo (zbo (zbo (zbo (zbo (zaI W N 0 v0) (zaI _ N 1 v1)) (zaI _ N 2 v2)) (zaI _ N 3 v3)) (zaI _ N 4 v4)) (zaI _ N 5 v5)) (zaI _ N 6 v6)) (zaI _ N 7 v7)
theorem blk_types {W:World} {B:Nat} {cs cs':Array Value} {t t':TypeId} (h:Blk W B cs t) (h':Blk W B cs' t'):t=t':=by
 have:=h.symm.trans h'
 injection this with e
 injection e
theorem zco {W W':World} {lo E sz n:Nat} {v:Value} {xs:List Value} {row:Option Nat} (h:W.ownsRow lo E sz v n xs) (hg:W.grownBy W' row) (hne:v.ownBlock=none∨v.ownBlock≠row):W'.ownsRow lo E sz v n xs:=by
 refine ⟨h.1, ?_⟩
 rcases h.2 with h2 | ⟨g,cap,cur,e,hb,h3,r⟩
 ·exact .inl h2
 ·refine .inr ⟨g,cap,cur,e,hb, ?_,r⟩
  subst e
  rw [hg.block g (Array.getElem?_eq_some_iff.1 h3).1 (by rcases hne with h4 | h4;exact absurd h4 (by simp [Value.ownBlock]);exact h4)]
  exact h3
theorem zi2 {W:World} {base base' E E' sz sz' n n':Nat} {v v':Value} {xs xs':List Value} (h:W.ownsRow base E sz v n xs) (h':W.ownsRow base' E' sz' v' n' xs') (hE:E≠E'):v.ownBlock=none∨v.ownBlock≠v'.ownBlock:=by
 rcases h.2 with ⟨rfl,_⟩ | ⟨g,cap,cur,rfl,_,hg,_⟩
 ·exact .inl rfl
 ·refine .inr ?_
  rcases h'.2 with ⟨rfl,_⟩ | ⟨g',cap',cur',rfl,_,hg',_⟩
  ·simp [Value.ownBlock]
  ·simp only [Value.ownBlock]
   intro e
   have e:=Option.some.inj e
   subst e
   exact hE (blk_types (show Blk W g cur E from hg) (show Blk W g cur' E' from hg'))
theorem zbl {W:World} {lo E sz n:Nat} {v:Value} {xs:List Value} (h:W.ownsRow lo E sz v n xs):∀ k,v.ownBlock=some k→lo≤k:=by
 rcases h.2 with ⟨rfl,_⟩ | ⟨g,cap,cur,rfl,hl,hg,_⟩
 ·intro k e;simp [Value.ownBlock] at e
 ·intro k e;simp [Value.ownBlock] at e;omega
def zaK:List (Int × Int)→List Value
 | [] => []
 | x::t =>.int .i32 x.1::.int .i32 x.2::zaK t
structure Ln where
 E:Nat
 sz:Nat
 n:Nat
 xs:List Value
theorem zbE {W:World} {lo E sz n:Nat} {v:Value} {xs:List Value} (h:W.ownsRow lo E sz v n xs):∀ k,v.ownBlock=some k→k < W.heap.size:=by
 rcases h.2 with ⟨rfl,_⟩ | ⟨g,cap,cur,rfl,hl,hg,_⟩
 ·intro k e;simp [Value.ownBlock] at e
 ·intro k e;simp [Value.ownBlock] at e;subst e;exact (Array.getElem?_eq_some_iff.1 hg).1
theorem zaA {W:World} {lo E sz n:Nat} {v:Value} {xs:List Value} (h:W.ownsRow lo E sz v n xs):∃ a c,v=.slice a n c:=by
 rcases h.2 with ⟨rfl,rfl⟩ | ⟨g,cap,cur,rfl,_⟩
 ·exact ⟨none,0,rfl⟩
 ·exact ⟨_,_,rfl⟩
theorem ze3 {W W':World} {row:Option Nat} (h:Below W.heap.size W W'):W.grownBy W' row:=⟨h.os,h.tape,h.output,h.size,fun i hi _ =>h.block i hi⟩
theorem zdP (t:List (Int × Int)):(zaK t).length=t.length*2:=by
 induction t with
 | nil =>rfl
 | cons x t ih =>show (zaK t).length+1+1=(t.length+1)*2;omega
theorem encS2_one (t:List (Int × Int)):∀ u ∈ zaK t,u.oneCell'=true:=by
 induction t with
 | nil =>intro u hu;cases hu
 | cons x t ih =>
  intro u hu
  rcases List.mem_cons.1 hu with rfl | hu
  ·rfl
  ·rcases List.mem_cons.1 hu with rfl | hu
   ·rfl
   ·exact ih u hu
theorem own_some {W:World} {lo E sz n:Nat} {v:Value} {xs:List Value} (h:W.ownsRow lo E sz v n xs) (h0:n=0→v=.slice none 0 0):(v=.slice none 0 0∧n=0∧xs=[])∨∃ g c,v=.slice (some ⟨g,0,none⟩) n c∧0 < n∧lo≤g∧n≤c∧∀ j u,xs[j]?=some u→W.cell? ((⟨g,0,none⟩:Addr).add j)=some u:=by
 by_cases hn:n=0
 ·subst hn
  exact .inl ⟨h0 rfl,rfl,by have:=h.1;rw [Nat.zero_mul] at this;exact List.length_eq_zero_iff.1 this⟩
 ·rcases h.2 with ⟨_,h2⟩ | ⟨g,cap,cur,rfl,hl,hg,hc,_,hcs,hx⟩
  ·exact absurd h2 hn
  ·refine .inr ⟨g,cap,rfl,by omega,hl,hc,fun j u hu =>?_⟩
   have hj:=(List.getElem?_eq_some_iff.1 hu).1
   rw [h.1] at hj
   rw [← hx,List.getElem?_take_of_lt hj] at hu
   have ea:(⟨g,0,none⟩:Addr).add j=⟨g,j,none⟩:=by cases j <;> simp [Addr.add]
   rw [ea]
   have b:Blk W g cur E:=hg
   rw [b.cell j, ← hu,Array.getElem?_toList]
theorem za7 {W:World} {lo lo' E sz n:Nat} {v:Value} {xs:List Value} (h:W.ownsRow lo E sz v n xs) (hl:lo'≤lo):W.ownsRow lo' E sz v n xs:=by
 refine ⟨h.1, ?_⟩
 rcases h.2 with h2 | ⟨g,cap,cur,e,hb,h3⟩
 ·exact .inl h2
 ·exact .inr ⟨g,cap,cur,e,by omega,h3⟩
theorem zdu {W W':World} {row:Option Nat} (h:Below W.heap.size W W'):W.grownBy W' row:=⟨h.os,h.tape,h.output,h.size,fun i hi _ =>h.block i hi⟩
def encI (l:List Int):List Value:=l.map (Value.int .i32)
theorem infoI32:(Tryz.prog.info? 21).map (fun i =>(i.zero,i.size,i.bytes))=some (some (.int .i32 0),1,4):=by kernel_rfl
structure TV where
 sc:List (ByteArray × List (Int × Int))
 co:List (Int × Int)
 ma:List (Int × Int)
 pr:List (Int × Int × Int)
 fo:List (Int × ByteArray)
 lk:List (Int × ByteArray)
 dr:List (Int × Int)
 al:List (Int × Int)
 r1:List (Int × Int × Int)
 r2:List (Int × Int × Int)
 r3:List (Int × Int × Int)
 r4:List (Int × Int × Int)
 r5:List (Int × Int × Int)
 r6:List (Int × Int × Int)
 r7:List (Int × Int × Int)
 r8:List (Int × Int × Int)
def zc9:List (Int × Int)→List Value
 | [] => []
 | x::t =>.int .i32 x.1::.int .i64 x.2::zc9 t
def zcC:List (Int × Int × Int)→List Value
 | [] => []
 | x::t =>.int .i32 x.1::.int .i32 x.2.1::.int .i32 x.2.2::zcC t
def zbf:List (Int × ByteArray)→List Value
 | [] => []
 | x::t =>.int .i32 x.1::.string x.2::zbf t
def zbz:List (ByteArray × List (Int × Int))→List Value→List Value
 | x::t,u::us =>.string x.1::u::zbz t us
 | _,_ => []
theorem encM2_one (t:List (Int × Int)):∀ u ∈ zc9 t,u.oneCell'=true:=by
 induction t with
 | nil =>intro u hu;cases hu
 | cons x t ih =>
  intro u hu
  rcases List.mem_cons.1 hu with rfl | hu
  ·rfl
  ·rcases List.mem_cons.1 hu with rfl | hu
   ·rfl
   ·exact ih u hu
theorem encF2_one (t:List (Int × ByteArray)):∀ u ∈ zbf t,u.oneCell'=true:=by
 induction t with
 | nil =>intro u hu;cases hu
 | cons x t ih =>
  intro u hu
  rcases List.mem_cons.1 hu with rfl | hu
  ·rfl
  ·rcases List.mem_cons.1 hu with rfl | hu
   ·rfl
   ·exact ih u hu
theorem encP3_one (t:List (Int × Int × Int)):∀ u ∈ zcC t,u.oneCell'=true:=by
 induction t with
 | nil =>intro u hu;cases hu
 | cons x t ih =>
  intro u hu
  rcases List.mem_cons.1 hu with rfl | hu
  ·rfl
  ·rcases List.mem_cons.1 hu with rfl | hu
   ·rfl
   ·rcases List.mem_cons.1 hu with rfl | hu
    ·rfl
    ·exact ih u hu
theorem encSc_one (t:List (ByteArray × List (Int × Int))) (us:List Value) (hu:∀ u ∈ us,u.oneCell'=true):∀ u ∈ zbz t us,u.oneCell'=true:=by
 induction t generalizing us with
 | nil =>intro u h;cases us <;> cases h
 | cons x t ih =>cases us with
  | nil =>intro u h;cases h
  | cons v us =>
   intro u h
   rcases List.mem_cons.1 h with rfl | h
   ·rfl
   ·rcases List.mem_cons.1 h with rfl | h
    ·exact hu _ List.mem_cons_self
    ·exact ih us (fun y hy =>hu y (List.mem_cons_of_mem _ hy)) u h
theorem zes (t:List (ByteArray × List (Int × Int))) (us:List Value) (h:us.length=t.length) (j:Nat):(zbz t us)[2*j+1]?=us[j]?:=by
 induction t generalizing us j with
 | nil =>cases us with
  | nil =>simp [zbz]
  | cons v us =>cases h
 | cons x t ih =>cases us with
  | nil =>cases h
  | cons v us =>cases j with
   | zero =>rfl
   | succ j =>show (_::_::zbz t us)[2*j+1+2]?=_;rw [List.getElem?_cons_succ,List.getElem?_cons_succ,List.getElem?_cons_succ];exact ih us (by simpa using h) j
theorem encSc_set (t:List (ByteArray × List (Int × Int))) (us:List Value) (h:us.length=t.length) (j:Nat) (v:Value):(zbz t us).set (2*j+1) v=zbz t (us.set j v):=by
 induction t generalizing us j with
 | nil =>cases us with
  | nil =>simp [zbz]
  | cons v us =>cases h
 | cons x t ih =>cases us with
  | nil =>cases h
  | cons u us =>cases j with
   | zero =>rfl
   | succ j =>show (_::_::zbz t us).set (2*j+1+2) v=_::_::zbz t (us.set j v);rw [List.set_cons_succ,List.set_cons_succ,ih us (by simpa using h) j]
theorem zdO (t:List (ByteArray × List (Int × Int))) (us:List Value) (h:us.length=t.length):(zbz t us).length=t.length*2:=by
 induction t generalizing us with
 | nil =>cases us <;> rfl
 | cons x t ih =>cases us with
  | nil =>cases h
  | cons u us =>show (zbz t us).length+1+1=(t.length+1)*2;rw [ih us (by simpa using h)];omega
theorem zk1 {W:World} {lo E sz n g cap:Nat} {xs:List Value} (h:W.ownsRow lo E sz (.slice (some ⟨g,0,none⟩) n cap) n xs) (i:Nat) (hi:i < n*sz) (u:Value):(W.setCell ⟨g,i,none⟩ u).ownsRow lo E sz (.slice (some ⟨g,0,none⟩) n cap) n (xs.set i u):=by
 refine ⟨by rw [List.length_set];exact h.1, ?_⟩
 rcases h.2 with ⟨e,_⟩ | ⟨g',cap',cur,e,hb,hg,hc,hm,hcs,hx⟩
 ·cases e
 ·injection e with e1 e2 e3
  injection e1 with e1
  injection e1 with e1
  subst e1 e3
  have b:=(show Blk W g cur E from hg).set i u
  refine .inr ⟨g,cap,_,rfl,hb,b,hc,hm,by rw [Array.size_setIfInBounds];exact hcs, ?_⟩
  rw [Array.toList_setIfInBounds,List.take_set,hx]
def RowC (W:World) (hi:Nat) (a:Option Addr) (xs:List Value):Prop:=0 < xs.length→∃ g o,a=some ⟨g,o,none⟩∧g < hi∧∀ j u,xs[j]?=some u→W.cell? ⟨g,o+j,none⟩=some u
theorem zet (l:List (Int × Int)) (j:Nat) (x:Int × Int) (h:l[j]?=some x):(zaK l)[j*2]?=some (.int .i32 x.1)∧(zaK l)[j*2+1]?=some (.int .i32 x.2):=by
 induction l generalizing j with
 | nil =>simp at h
 | cons y l ih =>cases j with
  | zero =>obtain rfl:=Option.some.inj h;exact ⟨rfl,rfl⟩
  | succ j =>have:=ih j (by simpa using h);rw [show (j+1)*2=j*2+1+1 by omega];exact this
theorem zdQ (t:List (Int × Int × Int)):(zcC t).length=t.length*3:=by
 induction t with
 | nil =>rfl
 | cons x t ih =>show (zcC t).length+1+1+1=(t.length+1)*3;omega
theorem zcM (l:List (Int × Int × Int)) (j:Nat) (x:Int × Int × Int) (h:l[j]?=some x):(zcC l)[j*3]?=some (.int .i32 x.1)∧(zcC l)[j*3+1]?=some (.int .i32 x.2.1)∧(zcC l)[j*3+2]?=some (.int .i32 x.2.2):=by
 induction l generalizing j with
 | nil =>simp at h
 | cons y l ih =>cases j with
  | zero =>obtain rfl:=Option.some.inj h;exact ⟨rfl,rfl,rfl⟩
  | succ j =>have:=ih j (by simpa using h);rw [show (j+1)*3=j*3+1+1+1 by omega];exact this
theorem ze1 (t:List (Int × Int)):(zc9 t).length=t.length*2:=by
 induction t with
 | nil =>rfl
 | cons x t ih =>show (zc9 t).length+1+1=(t.length+1)*2;omega
theorem zfo (l:List (Int × Int)) (j:Nat) (x:Int × Int) (h:l[j]?=some x):(zc9 l)[j*2]?=some (.int .i32 x.1)∧(zc9 l)[j*2+1]?=some (.int .i64 x.2):=by
 induction l generalizing j with
 | nil =>simp at h
 | cons y l ih =>cases j with
  | zero =>obtain rfl:=Option.some.inj h;exact ⟨rfl,rfl⟩
  | succ j =>have:=ih j (by simpa using h);rw [show (j+1)*2=j*2+1+1 by omega];exact this
theorem zhK (t:List (ByteArray × List (Int × Int))) (us:List Value) (h:us.length=t.length) (j:Nat) (x:ByteArray × List (Int × Int)) (hx:t[j]?=some x):(zbz t us)[j*2]?=some (.string x.1):=by
 induction t generalizing us j with
 | nil =>simp at hx
 | cons y t ih =>cases us with
  | nil =>cases h
  | cons v us =>cases j with
   | zero =>obtain rfl:=Option.some.inj hx;rfl
   | succ j =>have:=ih us (by simpa using h) j (by simpa using hx);rw [show (j+1)*2=j*2+1+1 by omega];exact this
theorem zdR (t:List (Int × ByteArray)):(zbf t).length=t.length*2:=by
 induction t with
 | nil =>rfl
 | cons x t ih =>show (zbf t).length+1+1=(t.length+1)*2;omega
theorem zdr (l:List (Int × ByteArray)) (j:Nat) (x:Int × ByteArray) (h:l[j]?=some x):(zbf l)[j*2]?=some (.int .i32 x.1)∧(zbf l)[j*2+1]?=some (.string x.2):=by
 induction l generalizing j with
 | nil =>simp at h
 | cons y l ih =>cases j with
  | zero =>obtain rfl:=Option.some.inj h;exact ⟨rfl,rfl⟩
  | succ j =>have:=ih j (by simpa using h);rw [show (j+1)*2=j*2+1+1 by omega];exact this
structure TabIn (W:World) (T:TV) (a0 a1 a2 a3 a4 a5 a6 a7:Option Addr) (us:List Value):Prop where
 lu:us.length=T.sc.length
 r0:RowC W W.heap.size a0 (zbz T.sc us)
 r1:RowC W W.heap.size a1 (zaK T.co)
 r2:RowC W W.heap.size a2 (zc9 T.ma)
 r3:RowC W W.heap.size a3 (zcC T.pr)
 r4:RowC W W.heap.size a4 (zbf T.fo)
 r5:RowC W W.heap.size a5 (zbf T.lk)
 r6:RowC W W.heap.size a6 (zaK T.dr)
 r7:RowC W W.heap.size a7 (zaK T.al)
 rs:∀ (j:Nat) (x:ByteArray × List (Int × Int)) (u:Value),T.sc[j]?=some x→us[j]?=some u→∃ b d,u=.slice b x.2.length d∧RowC W W.heap.size b (zaK x.2)
structure zfd (T:TV):Prop where
 n0:T.sc.length≤1000000
 n1:T.co.length≤1000000
 n2:T.ma.length≤1000000
 n3:T.pr.length≤1000000
 n4:T.fo.length≤1000000
 n5:T.lk.length≤1000000
 n6:T.dr.length≤1000000
 n7:T.al.length≤1000000
 z0:∀ x ∈ T.sc,x.1.size≤maxLen∧x.2.length≤1000000
 z2:∀ x ∈ T.ma, -9223372036854775808≤x.2∧x.2≤9223372036854775807
 z4:∀ x ∈ T.fo,x.2.size≤maxLen
 z5:∀ x ∈ T.lk,x.2.size≤maxLen
theorem RowC.below {W W':World} {hi hi':Nat} {a:Option Addr} {xs:List Value} (h:RowC W hi a xs) (hb:Below hi W W') (hl:hi≤hi'):RowC W' hi' a xs:=by
 intro h0
 obtain ⟨g,o,h1,h2,h3⟩:=h h0
 exact ⟨g,o,h1,by omega,fun j u hu =>(hb.cell (p:=⟨g,o+j,none⟩) h2).trans (h3 j u hu)⟩
def tabV (T:TV) (a0 a1 a2 a3 a4 a5 a6 a7:Option Addr) (c0 c1 c2 c3 c4 c5 c6 c7:Nat):Array Value:=#[.slice a0 T.sc.length c0,.slice a1 T.co.length c1,.slice a2 T.ma.length c2,.slice a3 T.pr.length c3,.slice a4 T.fo.length c4,.slice a5 T.lk.length c5,.slice a6 T.dr.length c6,.slice a7 T.al.length c7]
theorem TabIn.lower {W W':World} {T:TV} {a0 a1 a2 a3 a4 a5 a6 a7:Option Addr} {us:List Value} (h:TabIn W T a0 a1 a2 a3 a4 a5 a6 a7 us) (hb:Below W.heap.size W W'):TabIn W' T a0 a1 a2 a3 a4 a5 a6 a7 us :=
 ⟨h.lu,h.r0.below hb hb.size,h.r1.below hb hb.size,h.r2.below hb hb.size,h.r3.below hb hb.size,h.r4.below hb hb.size,h.r5.below hb hb.size,h.r6.below hb hb.size,h.r7.below hb hb.size,fun j x u hx hu =>by
  obtain ⟨b,d,e,hr⟩:=h.rs j x u hx hu
  exact ⟨b,d,e,hr.below hb hb.size⟩⟩
end Go.Proofs.YtoaiicbicdhkkaaGreat
