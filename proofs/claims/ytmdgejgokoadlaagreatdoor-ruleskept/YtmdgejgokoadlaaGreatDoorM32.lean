/- Texts of this claim, one behind the other. -/
import Derived.Test.YtmdgejgokoadlaaGreatDoorM31
import Derived.Test.YtmdgejgokoadlaaGreatDoorM18
import Derived.Test.YtmdgejgokoadlaaGreatDoorM28
import Derived.Test.YtmdgejgokoadlaaGreatDoorM23
import Derived.Test.YtmdgejgokoadlaaGreatDoorM29
import Derived.Test.YtmdgejgokoadlaaGreatDoorM30
import Derived.Test.YtmdgejgokoadlaaGreatDoorM13
import Derived.Deep.AppendLies
import Derived.Laws.OwnMore
import Derived.Test.YtmdgejgokoadlaaGreatDoorM14
import Derived.Deep.RegionHeld3
import Derived.LaidEqlPtr
import Derived.OwnWalk
import Derived.Test.YtmdgejgokoadlaaGreatDoorM19
/- Where rows are zhj to stand words stand. Plain mathematics. -/
namespace Go.Proofs.YtmdgejgokoadlaaGreatDoor
open Go.RowKit Go.Shelf
set_option linter.unusedVariables false
def Plc (s:ByteArray) (x:Int × Int × Int):Prop := ∃ b:Nat,b≤s.size∧x=(((b:Nat):Int),(((whL s b).1:Nat):Int),(((whL s b).2:Nat):Int))
theorem ws_plc (s:ByteArray):∀ x ∈ zcI s,Plc s (x.b,x.l,x.c):=by
 intro x h
 obtain ⟨y,hy,rfl⟩:=List.mem_map.1 h
 have hw:=(zdO s).1 y hy
 have h1:=hw.lc
 refine ⟨y.b,Nat.le_of_lt hw.lt, ?_⟩
 show (((y.b:Nat):Int),((y.l:Nat):Int),((y.c:Nat):Int))=_
 rw [← h1]
theorem zfY {P:Int × Int × Int→Prop} {ws:List W8} (hg:∀ x ∈ ws,P (x.b,x.l,x.c)) (eb el ec:Int):∀ (f k:Nat) (bad:Option Rf), ∀ p ∈ (zaT ws eb el ec f k bad).ps,P p
 | 0,k,bad,p,h =>by cases h
 | f+1,k,bad,p,h =>by
  unfold zaT at h
  by_cases hs:zaJ ws k bad 3=true
  ·rw [if_pos hs] at h
   dsimp only at h
   rcases List.mem_cons.1 h with e | h
   ·obtain ⟨x,hx,_,_⟩:=zbl hs
    rw [e]
    unfold atV
    rw [hx]
    exact hg x (List.mem_of_getElem? hx)
   ·exact zfY hg eb el ec f _ _ p h
  ·rw [if_neg hs] at h
   cases h
structure TV.All (P:Int × Int × Int→Prop) (T:TV):Prop where
 r1:∀ p ∈ T.r1,P p
 r2:∀ p ∈ T.r2,P p
 r3:∀ p ∈ T.r3,P p
 r4:∀ p ∈ T.r4,P p
 r5:∀ p ∈ T.r5,P p
 r6:∀ p ∈ T.r6,P p
 r7:∀ p ∈ T.r7,P p
 r8:∀ p ∈ T.r8,P p
theorem zd7 {P:Int × Int × Int→Prop} {l m:List (Int × Int × Int)} (h:∀ p ∈ l,P p) (hy:∀ p ∈ m,P p):∀ p ∈ l++m,P p:=by
 intro p hp
 rcases List.mem_append.1 hp with h1 | h1
 ·exact h p h1
 ·exact hy p h1
theorem one_all {P:Int × Int × Int→Prop} {y:Int × Int × Int} (hy:P y):∀ p ∈ [y],P p:=by
 intro p hp
 rw [List.mem_singleton.1 hp]
 exact hy
theorem rule_all {P:Int × Int × Int→Prop} {ws:List W8} (hg:∀ x ∈ ws,P (x.b,x.l,x.c)) (eb el ec:Int) (k:Nat) (x:W8) (hx:ws[k]?=some x) (T:TV) (hT:T.All P):(zau ws eb el ec k x T).T.All P:=by
 have hxp:=one_all (hg x (List.mem_of_getElem? hx))
 have hs:∀ p ∈ (zaf ws (k+1) none eb el ec).ps,P p:=fun p hp =>zfY hg eb el ec _ _ _ p hp
 have h8:=zeF x.S
 unfold zau
 generalize zaB x.S=n at *
 obtain ⟨b1,b2,b3,b4,b5,b6,b7,b8⟩:=hT
 rcases (by omega:n=0∨n=1∨n=2∨n=3∨n=4∨n=5∨n=6∨n=7∨n=8) with rfl | rfl | rfl | rfl | rfl | rfl | rfl | rfl | rfl
 all_goals simp only [zbi]
 ·exact ⟨b1,b2,b3,b4,b5,b6,b7,b8⟩
 ·exact ⟨zd7 b1 hxp,b2,b3,b4,b5,b6,b7,b8⟩
 ·exact ⟨b1,zd7 b2 hs,b3,b4,b5,b6,b7,b8⟩
 ·exact ⟨b1,b2,zd7 b3 hxp,b4,b5,b6,b7,b8⟩
 ·exact ⟨b1,b2,b3,zd7 b4 hxp,b5,b6,b7,b8⟩
 ·exact ⟨b1,b2,b3,b4,zd7 b5 hxp,b6,b7,b8⟩
 ·exact ⟨b1,b2,b3,b4,b5,zd7 b6 hxp,b7,b8⟩
 ·exact ⟨b1,b2,b3,b4,b5,b6,zd7 b7 hs,b8⟩
 ·exact ⟨b1,b2,b3,b4,b5,b6,b7,zd7 b8 hs⟩
theorem zf9 {P:Int × Int × Int→Prop} {ws:List W8} (hg:∀ x ∈ ws,P (x.b,x.l,x.c)) (eb el ec:Int):∀ (f k:Nat) (bad:Option Rf) (T:TV),T.All P→(za1 ws eb el ec f k bad T).T.All P
 | 0,k,bad,T,h =>h
 | f+1,k,bad,T,h =>by
  cases bad with
  | some r =>unfold za1;exact h
  | none =>
   cases hx:ws[k]? with
   | none =>unfold za1;rw [hx];exact h
   | some x =>
    have e:za1 ws eb el ec (f+1) k none T=za1 ws eb el ec f (zau ws eb el ec k x T).k (zau ws eb el ec k x T).bad (zau ws eb el ec k x T).T:=by
     conv =>lhs;unfold za1
     rw [hx]
    rw [e]
    exact zf9 hg eb el ec f _ _ _ (rule_all hg eb el ec k x hx T h)
theorem TV0_all (P:Int × Int × Int→Prop):TV0.All P:=by
 constructor <;> (intro p h;cases h)
theorem parse_all (s:ByteArray):(zaD s).T.All (Plc s):=by
 unfold zaD
 split
 ·exact zf9 (ws_plc s) _ _ _ _ _ _ _ (TV0_all _)
 ·exact TV0_all _
theorem TV.All.row {P:Int × Int × Int→Prop} {T:TV} (h:T.All P) (i j:Nat) (x:Int × Int × Int) (hx:(zcv T i)[j]?=some x):P x:=by
 have hm:=List.mem_of_getElem? hx
 unfold zcv at hm
 split at hm
 ·exact h.r1 x hm
 ·exact h.r2 x hm
 ·exact h.r3 x hm
 ·exact h.r4 x hm
 ·exact h.r5 x hm
 ·exact h.r6 x hm
 ·exact h.r7 x hm
 ·exact h.r8 x hm
 ·cases hm
theorem rows_le {T:TV} {n:Nat} (h:T.Le n) (i:Nat):(zcv T i).length≤n:=by
 unfold zcv
 split
 ·exact h.r1
 ·exact h.r2
 ·exact h.r3
 ·exact h.r4
 ·exact h.r5
 ·exact h.r6
 ·exact h.r7
 ·exact h.r8
 ·exact Nat.zero_le _
theorem ref_plc {s:ByteArray} (k:Nat):Plc s ((zeA (zcI s) k (s.size:Nat) (zcl s) (zcm s)).b,(zeA (zcI s) k (s.size:Nat) (zcl s) (zcm s)).l,(zeA (zcI s) k (s.size:Nat) (zcl s) (zcm s)).c)∧((zeA (zcI s) k (s.size:Nat) (zcl s) (zcm s)).why=5∨(zeA (zcI s) k (s.size:Nat) (zcl s) (zcm s)).why=21):=by
 unfold zeA
 cases h:(zcI s)[k]? with
 | none =>exact ⟨⟨s.size,Nat.le_refl _,rfl⟩,.inr rfl⟩
 | some x =>exact ⟨ws_plc s x (List.mem_of_getElem? h),.inl rfl⟩
def Rv (ws:List W8) (eb el ec:Int) (bad:Option Rf):Prop := ∀ f,bad=some f→∃ j,f=zeA ws j eb el ec
theorem zbf {ws:List W8} {eb el ec:Int} {k:Nat} {bad:Option Rf} {kind:Int} (h:Rv ws eb el ec bad):Rv ws eb el ec (zaa ws k bad eb el ec kind).bad:=by
 unfold zaa
 split
 ·exact h
 ·exact fun f e =>⟨k,(Option.some.inj e).symm⟩
theorem span_rv {ws:List W8} {eb el ec:Int} {k:Nat} {bad:Option Rf} (h:Rv ws eb el ec bad):Rv ws eb el ec (zbs ws k bad eb el ec).bad:=by
 unfold zbs
 dsimp only
 split
 ·exact zbf (zbf (zbf h))
 ·exact zbf h
theorem zgG {ws:List W8} {eb el ec:Int}:∀ (f k:Nat) (bad:Option Rf),Rv ws eb el ec bad→Rv ws eb el ec (zaT ws eb el ec f k bad).bad
 | 0,k,bad,h =>h
 | f+1,k,bad,h =>by
  unfold zaT
  split
  ·exact zgG f _ _ (span_rv h)
  ·exact h
theorem zeD {ws:List W8} {eb el ec:Int} {k:Nat} {bad:Option Rf} (h:Rv ws eb el ec bad):Rv ws eb el ec (zaf ws k bad eb el ec).bad:=by
 unfold zaf
 dsimp only
 exact zbf (zgG _ _ _ (zbf h))
theorem zko {ws:List W8} {eb el ec:Int}:∀ (f k:Nat) (bad:Option Rf),Rv ws eb el ec bad→Rv ws eb el ec (zcP ws eb el ec f k bad).bad
 | 0,k,bad,h =>h
 | f+1,k,bad,h =>by
  unfold zcP
  split
  ·exact zko f _ _ (zbf h)
  ·exact h
theorem mapV_rv {ws:List W8} {eb el ec:Int} {k:Nat} {bad:Option Rf} (h:Rv ws eb el ec bad):Rv ws eb el ec (zcc ws k bad eb el ec).bad:=by
 unfold zcc
 dsimp only
 exact zbf (zko _ _ _ (zbf (zbf (zbf h))))
theorem markV_rv {ws:List W8} {eb el ec:Int} {k:Nat} {bad:Option Rf} (h:Rv ws eb el ec bad):Rv ws eb el ec (zcn ws k bad eb el ec).bad:=by
 unfold zcn
 dsimp only
 exact zbf (zbf (zbf h))
theorem pairV_rv {ws:List W8} {eb el ec:Int} {k:Nat} {bad:Option Rf} (h:Rv ws eb el ec bad):Rv ws eb el ec (zb5 ws k bad eb el ec).bad:=by
 unfold zb5
 dsimp only
 exact zbf (zbf (zbf (zbf (zbf (zbf h)))))
theorem none_rv (ws:List W8) (eb el ec:Int):Rv ws eb el ec none:=fun f e =>by cases e
theorem rule_rv (ws:List W8) (eb el ec:Int) (k:Nat) (x:W8) (T:TV):Rv ws eb el ec (zau ws eb el ec k x T).bad:=by
 have h0:=none_rv ws eb el ec
 have h8:=zeF x.S
 unfold zau
 generalize zaB x.S=n at *
 rcases (by omega:n=0∨n=1∨n=2∨n=3∨n=4∨n=5∨n=6∨n=7∨n=8) with rfl | rfl | rfl | rfl | rfl | rfl | rfl | rfl | rfl
 all_goals simp only [zbi]
 ·exact fun f e =>⟨k,(Option.some.inj e).symm⟩
 ·exact zeD (zbf h0)
 ·exact zeD h0
 ·exact markV_rv h0
 ·exact pairV_rv h0
 ·exact mapV_rv h0
 ·exact mapV_rv h0
 ·exact zeD h0
 ·exact zeD h0
theorem zgL (ws:List W8) (eb el ec:Int):∀ (f k:Nat) (bad:Option Rf) (T:TV),Rv ws eb el ec bad→Rv ws eb el ec (za1 ws eb el ec f k bad T).bad
 | 0,k,bad,T,h =>h
 | f+1,k,bad,T,h =>by
  unfold za1
  split
  ·exact zgL ws eb el ec f _ _ _ (rule_rv ws eb el ec _ _ _)
  ·exact h
structure RfOk (s:ByteArray) (f:Rf):Prop where
 plc:Plc s (f.b,f.l,f.c)
 why:f.why=5∨f.why=20∨f.why=21
theorem zgS {s:ByteArray} {f:Rf} (h:(zbP s).bad=some f):Plc s (f.b,f.l,f.c)∧(f.why=5∨f.why=21):=by
 obtain ⟨j,rfl⟩:=zgL (zcI s) (s.size:Nat) (zcl s) (zcm s) _ _ none _ (none_rv _ _ _ _) f h
 exact ref_plc j
theorem parse_ref {s:ByteArray} {f:Rf} (h:(zaD s).bad=some f):RfOk s f:=by
 unfold zaD at h
 split at h
 ·obtain ⟨h1,h2⟩:=zgS h
  exact ⟨h1,by rcases h2 with e | e;exact .inl e;exact .inr (.inr e)⟩
 ·obtain rfl:=Option.some.inj h
  refine ⟨⟨(zan s).b,zjY s,rfl⟩, ?_⟩
  dsimp only
  split
  ·exact .inr (.inl rfl)
  ·exact .inr (.inr rfl)
theorem zli (s:ByteArray) (hs:s.size≤262144) (W:World):Calls Tryz.prog 16 #[.string s] W fun e w' =>RpAt s W w' e (zaD s)∧Below W.heap.size W w':=by
 cases hok:(zan s).ok with
 | false =>
  have e:zaD s=⟨0,some ⟨((zan s).b:Nat),((whL s (zan s).b).1:Nat),((whL s (zan s).b).2:Nat),if (zan s).b < s.size then 20 else 21⟩,TV0⟩:=by unfold zaD;rw [if_neg (by rw [hok];decide)]
  rw [e]
  exact (rparse_no s hs hok W).mono (fun ev w' h =>⟨h.1,h.2⟩)
 | true =>
  have e:zaD s=zbP s:=by unfold zaD;rw [if_pos hok]
  rw [e]
  cases hb:(zbP s).bad with
  | none =>exact zlj s hs hok hb W
  | some f =>
   rcases (zgS hb).2 with h5 | h21
   ·exact zjg s hs hok ⟨f,hb,h5⟩ W
   ·exact zlh s hs hok ⟨f,hb,h21⟩ W
theorem zih (s:ByteArray) (hs:s.size≤262144) (P:Ps) (hP:zaD s=P) (W:World):Calls Tryz.prog 16 #[.string s] W fun e w' =>RpAt s W w' e P∧Below W.heap.size W w':=by
 subst hP
 exact zli s hs W
def refA (T:TV) (a0 a1 a2 a3 a4 a5 a6 a7 e0 e1 e2 e3 e4 e5 e6 e7 e8:Option Addr) (c0 c1 c2 c3 c4 c5 c6 c7 f0 f1 f2 f3 f4 f5 f6 f7 f8:Nat):Array Value:=#[.slice a0 T.sc.length c0,.slice a1 T.co.length c1,.slice a2 T.ma.length c2,.slice a3 T.pr.length c3,.slice a4 T.fo.length c4,.slice a5 T.lk.length c5,.slice a6 T.dr.length c6,.slice a7 T.al.length c7,.slice e0 0 f0,.slice e1 T.r1.length f1,.slice e2 T.r2.length f2,.slice e3 T.r3.length f3,.slice e4 T.r4.length f4,.slice e5 T.r5.length f5,.slice e6 T.r6.length f6,.slice e7 T.r7.length f7,.slice e8 T.r8.length f8]
structure RefIn (W:World) (T:TV) (a0 a1 a2 a3 a4 a5 a6 a7 e0 e1 e2 e3 e4 e5 e6 e7 e8:Option Addr) (us:List Value):Prop where
 ti:TabIn W T a0 a1 a2 a3 a4 a5 a6 a7 us
 q0:RowC W W.heap.size e0 (zbw [])
 q1:RowC W W.heap.size e1 (zbw T.r1)
 q2:RowC W W.heap.size e2 (zbw T.r2)
 q3:RowC W W.heap.size e3 (zbw T.r3)
 q4:RowC W W.heap.size e4 (zbw T.r4)
 q5:RowC W W.heap.size e5 (zbw T.r5)
 q6:RowC W W.heap.size e6 (zbw T.r6)
 q7:RowC W W.heap.size e7 (zbw T.r7)
 q8:RowC W W.heap.size e8 (zbw T.r8)
theorem RefIn.lower {W W':World} {T:TV} {a0 a1 a2 a3 a4 a5 a6 a7 e0 e1 e2 e3 e4 e5 e6 e7 e8:Option Addr} {us:List Value} (h:RefIn W T a0 a1 a2 a3 a4 a5 a6 a7 e0 e1 e2 e3 e4 e5 e6 e7 e8 us) (hb:Below W.heap.size W W'):RefIn W' T a0 a1 a2 a3 a4 a5 a6 a7 e0 e1 e2 e3 e4 e5 e6 e7 e8 us :=
 ⟨h.ti.lower hb,h.q0.below hb hb.size,h.q1.below hb hb.size,h.q2.below hb hb.size,h.q3.below hb hb.size,h.q4.below hb hb.size,h.q5.below hb hb.size,h.q6.below hb hb.size,h.q7.below hb hb.size,h.q8.below hb hb.size⟩
theorem ref_in {W:World} {lo:Nat} {T:TV} {vs:List Value} (h:Lst W lo vs (lsR T (vs.drop 17))) (hl:17≤vs.length):∃ a0 a1 a2 a3 a4 a5 a6 a7 e0 e1 e2 e3 e4 e5 e6 e7 e8 c0 c1 c2 c3 c4 c5 c6 c7 f0 f1 f2 f3 f4 f5 f6 f7 f8 us,(vs.take 17).toArray=refA T a0 a1 a2 a3 a4 a5 a6 a7 e0 e1 e2 e3 e4 e5 e6 e7 e8 c0 c1 c2 c3 c4 c5 c6 c7 f0 f1 f2 f3 f4 f5 f6 f7 f8∧RefIn W T a0 a1 a2 a3 a4 a5 a6 a7 e0 e1 e2 e3 e4 e5 e6 e7 e8 us:=by
 obtain ⟨v0,v1,v2,v3,v4,v5,v6,v7,v8,v9,v10,v11,v12,v13,v14,v15,v16,us,rfl⟩:=zf0 vs hl
 have hL:(lsR T us).length=us.length+17:=h.ll
 rw [lsR_len] at hL
 have o0:W.ownsRow lo 71 2 v0 T.sc.length (zbQ T.sc us):=h.own 0 v0 _ rfl rfl
 have o1:W.ownsRow lo 73 2 v1 T.co.length (zap T.co):=h.own 1 v1 _ rfl rfl
 have o2:W.ownsRow lo 93 2 v2 T.ma.length (zco T.ma):=h.own 2 v2 _ rfl rfl
 have o3:W.ownsRow lo 96 3 v3 T.pr.length (zch T.pr):=h.own 3 v3 _ rfl rfl
 have o4:W.ownsRow lo 75 2 v4 T.fo.length (zbu T.fo):=h.own 4 v4 _ rfl rfl
 have o5:W.ownsRow lo 75 2 v5 T.lk.length (zbu T.lk):=h.own 5 v5 _ rfl rfl
 have o6:W.ownsRow lo 73 2 v6 T.dr.length (zap T.dr):=h.own 6 v6 _ rfl rfl
 have o7:W.ownsRow lo 73 2 v7 T.al.length (zap T.al):=h.own 7 v7 _ rfl rfl
 have o8:W.ownsRow lo 3 1 v8 0 (zbw []):=h.own 8 v8 _ rfl rfl
 have o9:W.ownsRow lo 3 1 v9 T.r1.length (zbw T.r1):=h.own 9 v9 _ rfl rfl
 have o10:W.ownsRow lo 3 1 v10 T.r2.length (zbw T.r2):=h.own 10 v10 _ rfl rfl
 have o11:W.ownsRow lo 3 1 v11 T.r3.length (zbw T.r3):=h.own 11 v11 _ rfl rfl
 have o12:W.ownsRow lo 3 1 v12 T.r4.length (zbw T.r4):=h.own 12 v12 _ rfl rfl
 have o13:W.ownsRow lo 3 1 v13 T.r5.length (zbw T.r5):=h.own 13 v13 _ rfl rfl
 have o14:W.ownsRow lo 3 1 v14 T.r6.length (zbw T.r6):=h.own 14 v14 _ rfl rfl
 have o15:W.ownsRow lo 3 1 v15 T.r7.length (zbw T.r7):=h.own 15 v15 _ rfl rfl
 have o16:W.ownsRow lo 3 1 v16 T.r8.length (zbw T.r8):=h.own 16 v16 _ rfl rfl
 obtain ⟨a0,c0,rfl⟩:=zab o0
 obtain ⟨a1,c1,rfl⟩:=zab o1
 obtain ⟨a2,c2,rfl⟩:=zab o2
 obtain ⟨a3,c3,rfl⟩:=zab o3
 obtain ⟨a4,c4,rfl⟩:=zab o4
 obtain ⟨a5,c5,rfl⟩:=zab o5
 obtain ⟨a6,c6,rfl⟩:=zab o6
 obtain ⟨a7,c7,rfl⟩:=zab o7
 obtain ⟨e0,f0,rfl⟩:=zab o8
 obtain ⟨e1,f1,rfl⟩:=zab o9
 obtain ⟨e2,f2,rfl⟩:=zab o10
 obtain ⟨e3,f3,rfl⟩:=zab o11
 obtain ⟨e4,f4,rfl⟩:=zab o12
 obtain ⟨e5,f5,rfl⟩:=zab o13
 obtain ⟨e6,f6,rfl⟩:=zab o14
 obtain ⟨e7,f7,rfl⟩:=zab o15
 obtain ⟨e8,f8,rfl⟩:=zab o16
 refine ⟨a0,a1,a2,a3,a4,a5,a6,a7,e0,e1,e2,e3,e4,e5,e6,e7,e8,c0,c1,c2,c3,c4,c5,c6,c7,f0,f1,f2,f3,f4,f5,f6,f7,f8,us,rfl,⟨⟨by omega,zaG o0,zaG o1,zaG o2,zaG o3,zaG o4,zaG o5,zaG o6,zaG o7, ?_⟩,zaG o8,zaG o9,zaG o10,zaG o11,zaG o12,zaG o13,zaG o14,zaG o15,zaG o16⟩⟩
 intro j x u hx hu
 have hx2:(T.sc.map (fun s =>Ln.mk 73 2 s.2.length (zap s.2)))[j]?=some (Ln.mk 73 2 x.2.length (zap x.2)):=by rw [List.getElem?_map,hx];rfl
 have oj:=h.own (j+17) u (Ln.mk 73 2 x.2.length (zap x.2)) hu hx2
 obtain ⟨b,d,rfl⟩:=zab oj
 exact ⟨b,d,rfl,zaG oj⟩
theorem refA_at (T:TV) (a0 a1 a2 a3 a4 a5 a6 a7 e0 e1 e2 e3 e4 e5 e6 e7 e8:Option Addr) (c0 c1 c2 c3 c4 c5 c6 c7 f0 f1 f2 f3 f4 f5 f6 f7 f8:Nat) {W:World} {us:List Value} (h:RefIn W T a0 a1 a2 a3 a4 a5 a6 a7 e0 e1 e2 e3 e4 e5 e6 e7 e8 us) (i:Nat) (hi:i < 9):∃ e f,(refA T a0 a1 a2 a3 a4 a5 a6 a7 e0 e1 e2 e3 e4 e5 e6 e7 e8 c0 c1 c2 c3 c4 c5 c6 c7 f0 f1 f2 f3 f4 f5 f6 f7 f8)[8+i]?=some (.slice e (zcv T i).length f)∧RowC W W.heap.size e (zbw (zcv T i)):=by
 rcases (by omega:i=0∨i=1∨i=2∨i=3∨i=4∨i=5∨i=6∨i=7∨i=8) with rfl | rfl | rfl | rfl | rfl | rfl | rfl | rfl | rfl
 ·exact ⟨e0,f0,rfl,h.q0⟩
 ·exact ⟨e1,f1,rfl,h.q1⟩
 ·exact ⟨e2,f2,rfl,h.q2⟩
 ·exact ⟨e3,f3,rfl,h.q3⟩
 ·exact ⟨e4,f4,rfl,h.q4⟩
 ·exact ⟨e5,f5,rfl,h.q5⟩
 ·exact ⟨e6,f6,rfl,h.q6⟩
 ·exact ⟨e7,f7,rfl,h.q7⟩
 ·exact ⟨e8,f8,rfl,h.q8⟩
theorem zfU (T:TV) (eb el ec list row:Int) (h:list < 1∨8 < list∨row < 0):zbR T eb el ec list row=(eb,el,ec):=by
 unfold zbR
 split
 ·rename_i h1
  obtain rfl:list=0:=by omega
  rfl
 ·rfl
theorem wh_row (T:TV) (eb el ec:Int) (l r:Nat) (h:l < 9) (x:Int × Int × Int) (hx:(zcv T l)[r]?=some x):zbR T eb el ec (l:Nat) (r:Nat)=x:=by
 unfold zbR
 rw [if_pos (by omega)]
 simp only [Int.toNat_natCast]
 rw [hx]
theorem wh_none (T:TV) (eb el ec:Int) (l r:Nat) (h:l < 9) (hx:(zcv T l)[r]?=none):zbR T eb el ec (l:Nat) (r:Nat)=(eb,el,ec):=by
 unfold zbR
 rw [if_pos (by omega)]
 simp only [Int.toNat_natCast]
 rw [hx]
theorem encB_at (l:List (Int × Int × Int)) (j:Nat) (x:Int × Int × Int) (h:l[j]?=some x):(zbw l)[j]?=some (.int .i64 x.1):=by
 unfold zbw
 rw [List.getElem?_map,h]
 rfl
set_option maxRecDepth 100000 in
set_option maxHeartbeats 4000000 in
theorem zk8 (s:ByteArray) (hs:s.size≤262144) (T:TV) (hT:T.All (Plc s)) (hL:T.Le 1000000) (a0 a1 a2 a3 a4 a5 a6 a7 e0 e1 e2 e3 e4 e5 e6 e7 e8:Option Addr) (c0 c1 c2 c3 c4 c5 c6 c7 f0 f1 f2 f3 f4 f5 f6 f7 f8:Nat) (us:List Value) (list row:Int) (W:World) (hR:RefIn W T a0 a1 a2 a3 a4 a5 a6 a7 e0 e1 e2 e3 e4 e5 e6 e7 e8 us) :
  Calls Tryz.prog 21 #[.string s,.agg (refA T a0 a1 a2 a3 a4 a5 a6 a7 e0 e1 e2 e3 e4 e5 e6 e7 e8 c0 c1 c2 c3 c4 c5 c6 c7 f0 f1 f2 f3 f4 f5 f6 f7 f8),.int .i64 list,.int .i64 row] W fun e w' =>e=.returned (atV3 (zbR T (s.size:Nat) (zcl s) (zcm s) list row))∧Below W.heap.size W w':=by
 have hmx:Tryz.prog.follows .mixedOrders=true:=by kernel_rfl
 have HWH:Hz (∀ (b:Nat),b≤s.size→∀ w,Calls Tryz.prog 46 #[.string s,.int .i64 (b:Nat)] w fun e w' =>e=.returned (.agg #[.int .i64 (b:Nat),.int .i64 ((whL s b).1:Nat),.int .i64 ((whL s b).2:Nat)])∧Below w.heap.size w w'):=kz (fun b hb w =>zcM s (by omega) b hb _ (.inr (.inr ⟨by omega,by omega,rfl⟩)) w)
 have HAT:=kz (fun i (hi:i < 9) =>refA_at T a0 a1 a2 a3 a4 a5 a6 a7 e0 e1 e2 e3 e4 e5 e6 e7 e8 c0 c1 c2 c3 c4 c5 c6 c7 f0 f1 f2 f3 f4 f5 f6 f7 f8 hR i hi)
 generalize refA T a0 a1 a2 a3 a4 a5 a6 a7 e0 e1 e2 e3 e4 e5 e6 e7 e8 c0 c1 c2 c3 c4 c5 c6 c7 f0 f1 f2 f3 f4 f5 f6 f7 f8=A at *
 have HX:Hz (Blk ((W.alloc (.cells A 51)).alloc (.cells #[.int .i64 0,.int .i64 0,.int .i64 0] 53)) W.heap.size A 51∧Blk ((W.alloc (.cells A 51)).alloc (.cells #[.int .i64 0,.int .i64 0,.int .i64 0] 53)) (W.heap.size+1) #[.int .i64 0,.int .i64 0,.int .i64 0] 53∧Below W.heap.size W ((W.alloc (.cells A 51)).alloc (.cells #[.int .i64 0,.int .i64 0,.int .i64 0] 53))):=kz (by
  have h:=Blk.new (W.alloc (.cells A 51)) #[.int .i64 0,.int .i64 0,.int .i64 0] 53
  rw [World.size_alloc] at h
  exact ⟨(Blk.new W A _).alloc _,h,((Below.refl _ W).alloc (Nat.le_refl _) _).alloc (by simp) _⟩)
 have HTL:=kz (And.intro hT hL)
 clear hR hT hL
 by_cases o1:list < 1
 ·have HV:Hz (zbR T (s.size:Nat) (zcl s) (zcm s) list row=(((s.size:Nat):Int),zcl s,zcm s)):=kz (zfU T _ _ _ list row (.inl o1))
  clear HAT HTL
  go_enter Tryz.func21,Tryz.ntmps21
  have HCW:=kz (oz HWH s.size (Nat.le_refl _))
  go_wp2_with fail
  refine (oz HCW _).mono ?_
  rintro e w2 ⟨rfl,hb2⟩
  have x56:=(oz HX).2.1.below hb2 (oz HX).2.1.lt
  have HB2:Hz (Below W.heap.size W w2):=kz ((oz HX).2.2.trans (hb2.mono (oz HX).2.2.size))
  have g0:=x56.cell 0
  have h0:=x56.frozen 0
  have g1:=x56.cell 1
  have h1:=x56.frozen 1
  have g2:=x56.cell 2
  have h2:=x56.frozen 2
  have HX56:=kz x56
  clear hb2 HCW x56
  go_wp2_with fail
  have K:=box3 (oz HX56) (Value.int .i64 ((s.size:Nat):Int)) (Value.int .i64 (((whL s s.size).1:Nat):Int)) (Value.int .i64 (((whL s s.size).2:Nat):Int))
  have HB3:=kz (((oz HB2).setCell (p:=⟨W.heap.size+1,0,none⟩) (by show W.heap.size≤W.heap.size+1;omega) (Value.int .i64 ((s.size:Nat):Int))).setCell (p:=⟨W.heap.size+1,1,none⟩) (by show W.heap.size≤W.heap.size+1;omega) (Value.int .i64 (((whL s s.size).1:Nat):Int)) |>.setCell (p:=⟨W.heap.size+1,2,none⟩) (by show W.heap.size≤W.heap.size+1;omega) (Value.int .i64 (((whL s s.size).2:Nat):Int)))
  generalize ((w2.setCell ⟨W.heap.size+1,0,none⟩ (Value.int .i64 ((s.size:Nat):Int))).setCell ⟨W.heap.size+1,1,none⟩ (Value.int .i64 (((whL s s.size).1:Nat):Int))).setCell ⟨W.heap.size+1,2,none⟩ (Value.int .i64 (((whL s s.size).2:Nat):Int))=w3 at K HB3 ⊢
  have s0:=K.1.cell 0
  have s1:=K.1.cell 1
  have s2:=K.1.cell 2
  clear K g0 g1 g2 h0 h1 h2
  rw [oz HV]
  exact bodyPost_ret (v := .agg #[.int .i64 ((s.size:Nat):Int),.int .i64 (((whL s s.size).1:Nat):Int),.int .i64 (((whL s s.size).2:Nat):Int)]) (by simp [results,Tryz.results21,go_sem,s0,s1,s2]) rfl ⟨rfl,oz HB3⟩

 by_cases o2:8 < list
 ·have HV:Hz (zbR T (s.size:Nat) (zcl s) (zcm s) list row=(((s.size:Nat):Int),zcl s,zcm s)):=kz (zfU T _ _ _ list row (.inr (.inl o2)))
  clear HAT HTL
  go_enter Tryz.func21,Tryz.ntmps21
  have HCW:=kz (oz HWH s.size (Nat.le_refl _))
  go_wp2_with fail
  refine (oz HCW _).mono ?_
  rintro e w2 ⟨rfl,hb2⟩
  have x56:=(oz HX).2.1.below hb2 (oz HX).2.1.lt
  have HB2:Hz (Below W.heap.size W w2):=kz ((oz HX).2.2.trans (hb2.mono (oz HX).2.2.size))
  have g0:=x56.cell 0
  have h0:=x56.frozen 0
  have g1:=x56.cell 1
  have h1:=x56.frozen 1
  have g2:=x56.cell 2
  have h2:=x56.frozen 2
  have HX56:=kz x56
  clear hb2 HCW x56
  go_wp2_with fail
  have K:=box3 (oz HX56) (Value.int .i64 ((s.size:Nat):Int)) (Value.int .i64 (((whL s s.size).1:Nat):Int)) (Value.int .i64 (((whL s s.size).2:Nat):Int))
  have HB3:=kz (((oz HB2).setCell (p:=⟨W.heap.size+1,0,none⟩) (by show W.heap.size≤W.heap.size+1;omega) (Value.int .i64 ((s.size:Nat):Int))).setCell (p:=⟨W.heap.size+1,1,none⟩) (by show W.heap.size≤W.heap.size+1;omega) (Value.int .i64 (((whL s s.size).1:Nat):Int)) |>.setCell (p:=⟨W.heap.size+1,2,none⟩) (by show W.heap.size≤W.heap.size+1;omega) (Value.int .i64 (((whL s s.size).2:Nat):Int)))
  generalize ((w2.setCell ⟨W.heap.size+1,0,none⟩ (Value.int .i64 ((s.size:Nat):Int))).setCell ⟨W.heap.size+1,1,none⟩ (Value.int .i64 (((whL s s.size).1:Nat):Int))).setCell ⟨W.heap.size+1,2,none⟩ (Value.int .i64 (((whL s s.size).2:Nat):Int))=w3 at K HB3 ⊢
  have s0:=K.1.cell 0
  have s1:=K.1.cell 1
  have s2:=K.1.cell 2
  clear K g0 g1 g2 h0 h1 h2
  rw [oz HV]
  exact bodyPost_ret (v := .agg #[.int .i64 ((s.size:Nat):Int),.int .i64 (((whL s s.size).1:Nat):Int),.int .i64 (((whL s s.size).2:Nat):Int)]) (by simp [results,Tryz.results21,go_sem,s0,s1,s2]) rfl ⟨rfl,oz HB3⟩

 by_cases o3:row < 0
 ·have HV:Hz (zbR T (s.size:Nat) (zcl s) (zcm s) list row=(((s.size:Nat):Int),zcl s,zcm s)):=kz (zfU T _ _ _ list row (.inr (.inr o3)))
  clear HAT HTL
  go_enter Tryz.func21,Tryz.ntmps21
  have HCW:=kz (oz HWH s.size (Nat.le_refl _))
  go_wp2_with fail
  refine (oz HCW _).mono ?_
  rintro e w2 ⟨rfl,hb2⟩
  have x56:=(oz HX).2.1.below hb2 (oz HX).2.1.lt
  have HB2:Hz (Below W.heap.size W w2):=kz ((oz HX).2.2.trans (hb2.mono (oz HX).2.2.size))
  have g0:=x56.cell 0
  have h0:=x56.frozen 0
  have g1:=x56.cell 1
  have h1:=x56.frozen 1
  have g2:=x56.cell 2
  have h2:=x56.frozen 2
  have HX56:=kz x56
  clear hb2 HCW x56
  go_wp2_with fail
  have K:=box3 (oz HX56) (Value.int .i64 ((s.size:Nat):Int)) (Value.int .i64 (((whL s s.size).1:Nat):Int)) (Value.int .i64 (((whL s s.size).2:Nat):Int))
  have HB3:=kz (((oz HB2).setCell (p:=⟨W.heap.size+1,0,none⟩) (by show W.heap.size≤W.heap.size+1;omega) (Value.int .i64 ((s.size:Nat):Int))).setCell (p:=⟨W.heap.size+1,1,none⟩) (by show W.heap.size≤W.heap.size+1;omega) (Value.int .i64 (((whL s s.size).1:Nat):Int)) |>.setCell (p:=⟨W.heap.size+1,2,none⟩) (by show W.heap.size≤W.heap.size+1;omega) (Value.int .i64 (((whL s s.size).2:Nat):Int)))
  generalize ((w2.setCell ⟨W.heap.size+1,0,none⟩ (Value.int .i64 ((s.size:Nat):Int))).setCell ⟨W.heap.size+1,1,none⟩ (Value.int .i64 (((whL s s.size).1:Nat):Int))).setCell ⟨W.heap.size+1,2,none⟩ (Value.int .i64 (((whL s s.size).2:Nat):Int))=w3 at K HB3 ⊢
  have s0:=K.1.cell 0
  have s1:=K.1.cell 1
  have s2:=K.1.cell 2
  clear K g0 g1 g2 h0 h1 h2
  rw [oz HV]
  exact bodyPost_ret (v := .agg #[.int .i64 ((s.size:Nat):Int),.int .i64 (((whL s s.size).1:Nat):Int),.int .i64 (((whL s s.size).2:Nat):Int)]) (by simp [results,Tryz.results21,go_sem,s0,s1,s2]) rfl ⟨rfl,oz HB3⟩

 obtain ⟨i,rfl⟩:∃ i:Nat,list=(i:Int):=⟨list.toNat,by omega⟩
 obtain ⟨j,rfl⟩:∃ j:Nat,row=(j:Int):=⟨row.toNat,by omega⟩
 have hi:i < 9:=by omega
 obtain ⟨ea,fa,hA,hrow⟩:=oz HAT i hi
 have t0:((W.alloc (.cells A 51)).alloc (.cells #[.int .i64 0,.int .i64 0,.int .i64 0] 53)).cell? ⟨W.heap.size,8+i,none⟩=some (.slice ea (zcv T i).length fa):=((oz HX).1.cell (8+i)).trans hA
 have hlen:=rows_le (oz HTL).2 i
 obtain ⟨l,hl2⟩:∃ l,l=zcv T i:=⟨_,rfl⟩
 rw [← hl2] at t0 hlen hrow
 have i0:(0:Int)≤(i:Int):=by omega
 have i1:¬ (i:Int) < 1:=by omega
 have i8:¬ 8 < (i:Int):=by omega
 have i9:(i:Int) < 9:=by omega
 have j0:(0:Int)≤(j:Int):=by omega
 by_cases hj:j < l.length
 ·obtain ⟨x,hx⟩:∃ x,l[j]?=some x:=⟨_,List.getElem?_eq_getElem hj⟩
  obtain ⟨b,hb,rfl⟩:=(oz HTL).1.row i j x (by rw [← hl2];exact hx)
  have HV:Hz (zbR T (s.size:Nat) (zcl s) (zcm s) (i:Nat) (j:Nat)=(((b:Nat):Int),(((whL s b).1:Nat):Int),(((whL s b).2:Nat):Int))):=kz (wh_row T _ _ _ i j hi _ (by rw [← hl2];exact hx))
  have jl:(j:Int) < (l.length:Int):=by omega
  obtain ⟨g,of,rfl,hg,hcs⟩:=hrow (by unfold zbw;rw [List.length_map];omega)
  have d0:((W.alloc (.cells A 51)).alloc (.cells #[.int .i64 0,.int .i64 0,.int .i64 0] 53)).cell? ⟨g,of+j,none⟩=some (.int .i64 ((b:Nat):Int)):=((oz HX).2.2.cell (p:=⟨g,of+j,none⟩) hg).trans (hcs j _ (encB_at l j _ hx))
  clear hrow hcs hA hx hl2 hj HTL HAT o1 o2 o3
  go_enter Tryz.func21,Tryz.ntmps21
  have HCW:=kz (oz HWH b hb)
  go_wp2_with fail
  refine (oz HCW _).mono ?_
  rintro e w2 ⟨rfl,hb2⟩
  have x56:=(oz HX).2.1.below hb2 (oz HX).2.1.lt
  have HB2:Hz (Below W.heap.size W w2):=kz ((oz HX).2.2.trans (hb2.mono (oz HX).2.2.size))
  have g0:=x56.cell 0
  have h0:=x56.frozen 0
  have g1:=x56.cell 1
  have h1:=x56.frozen 1
  have g2:=x56.cell 2
  have h2:=x56.frozen 2
  have HX56:=kz x56
  clear hb2 HCW x56
  go_wp2_with fail
  have K:=box3 (oz HX56) (Value.int .i64 ((b:Nat):Int)) (Value.int .i64 (((whL s b).1:Nat):Int)) (Value.int .i64 (((whL s b).2:Nat):Int))
  have HB3:=kz (((oz HB2).setCell (p:=⟨W.heap.size+1,0,none⟩) (by show W.heap.size≤W.heap.size+1;omega) (Value.int .i64 ((b:Nat):Int))).setCell (p:=⟨W.heap.size+1,1,none⟩) (by show W.heap.size≤W.heap.size+1;omega) (Value.int .i64 (((whL s b).1:Nat):Int)) |>.setCell (p:=⟨W.heap.size+1,2,none⟩) (by show W.heap.size≤W.heap.size+1;omega) (Value.int .i64 (((whL s b).2:Nat):Int)))
  generalize ((w2.setCell ⟨W.heap.size+1,0,none⟩ (Value.int .i64 ((b:Nat):Int))).setCell ⟨W.heap.size+1,1,none⟩ (Value.int .i64 (((whL s b).1:Nat):Int))).setCell ⟨W.heap.size+1,2,none⟩ (Value.int .i64 (((whL s b).2:Nat):Int))=w3 at K HB3 ⊢
  have s0:=K.1.cell 0
  have s1:=K.1.cell 1
  have s2:=K.1.cell 2
  clear K g0 g1 g2 h0 h1 h2
  rw [oz HV]
  exact bodyPost_ret (v := .agg #[.int .i64 ((b:Nat):Int),.int .i64 (((whL s b).1:Nat):Int),.int .i64 (((whL s b).2:Nat):Int)]) (by simp [results,Tryz.results21,go_sem,s0,s1,s2]) rfl ⟨rfl,oz HB3⟩

 ·have HV:Hz (zbR T (s.size:Nat) (zcl s) (zcm s) (i:Nat) (j:Nat)=(((s.size:Nat):Int),zcl s,zcm s)):=kz (wh_none T _ _ _ i j hi (by rw [← hl2];exact List.getElem?_eq_none (by omega)))
  have jl:¬ (j:Int) < (l.length:Int):=by omega
  have jm:(l.length:Int)≤(j:Int):=by omega
  clear hrow hA hl2 hj HTL HAT o1 o2 o3
  go_enter Tryz.func21,Tryz.ntmps21
  have HCW:=kz (oz HWH s.size (Nat.le_refl _))
  go_wp2_with fail
  refine (oz HCW _).mono ?_
  rintro e w2 ⟨rfl,hb2⟩
  have x56:=(oz HX).2.1.below hb2 (oz HX).2.1.lt
  have HB2:Hz (Below W.heap.size W w2):=kz ((oz HX).2.2.trans (hb2.mono (oz HX).2.2.size))
  have g0:=x56.cell 0
  have h0:=x56.frozen 0
  have g1:=x56.cell 1
  have h1:=x56.frozen 1
  have g2:=x56.cell 2
  have h2:=x56.frozen 2
  have HX56:=kz x56
  clear hb2 HCW x56
  go_wp2_with fail
  have K:=box3 (oz HX56) (Value.int .i64 ((s.size:Nat):Int)) (Value.int .i64 (((whL s s.size).1:Nat):Int)) (Value.int .i64 (((whL s s.size).2:Nat):Int))
  have HB3:=kz (((oz HB2).setCell (p:=⟨W.heap.size+1,0,none⟩) (by show W.heap.size≤W.heap.size+1;omega) (Value.int .i64 ((s.size:Nat):Int))).setCell (p:=⟨W.heap.size+1,1,none⟩) (by show W.heap.size≤W.heap.size+1;omega) (Value.int .i64 (((whL s s.size).1:Nat):Int)) |>.setCell (p:=⟨W.heap.size+1,2,none⟩) (by show W.heap.size≤W.heap.size+1;omega) (Value.int .i64 (((whL s s.size).2:Nat):Int)))
  generalize ((w2.setCell ⟨W.heap.size+1,0,none⟩ (Value.int .i64 ((s.size:Nat):Int))).setCell ⟨W.heap.size+1,1,none⟩ (Value.int .i64 (((whL s s.size).1:Nat):Int))).setCell ⟨W.heap.size+1,2,none⟩ (Value.int .i64 (((whL s s.size).2:Nat):Int))=w3 at K HB3 ⊢
  have s0:=K.1.cell 0
  have s1:=K.1.cell 1
  have s2:=K.1.cell 2
  clear K g0 g1 g2 h0 h1 h2
  rw [oz HV]
  exact bodyPost_ret (v := .agg #[.int .i64 ((s.size:Nat):Int),.int .i64 (((whL s s.size).1:Nat):Int),.int .i64 (((whL s s.size).2:Nat):Int)]) (by simp [results,Tryz.results21,go_sem,s0,s1,s2]) rfl ⟨rfl,oz HB3⟩

theorem wsz_len:∀ (l:List ByteArray),l.length≤wsz l
 | [] =>Nat.le_refl _
 | w::l =>by have:=wsz_len l;show l.length+1≤w.size+1+wsz l;omega
theorem zfE {α : Type} (f : α→List ByteArray):∀ (l:List α) (x : α),x ∈ l→wsz (f x)≤wsz (l.flatMap f)
 | [],x,h =>by cases h
 | y::l,x,h =>by
  rw [List.flatMap_cons,zbB]
  rcases List.mem_cons.1 h with rfl | h
  ·omega
  ·have:=zfE f l x h;omega
theorem zkC:∀ (l:List (Int × Int)),l.length≤wsz (l.flatMap zdj)
 | [] =>Nat.le_refl _
 | s::l =>by
  have h1:=zkC l
  have h2:1≤wsz (zdj s):=by unfold zdj;split <;> (show 1≤_+1+_;omega)
  rw [List.flatMap_cons,zbB,List.length_cons]
  omega
theorem zk0 (T:TV):wsz (T.sc.flatMap scW)≤(zhk T).size∧wsz (T.fo.flatMap (mpW ⟨#[102,111,108,100]⟩))≤(zhk T).size∧wsz (T.lk.flatMap (mpW ⟨#[108,111,111,107]⟩))≤(zhk T).size:=by
 rw [zhW]
 unfold zkq
 simp only [List.flatten_append, ← List.flatMap_def,zbB]
 omega
theorem zkl {w:ByteArray} {x:Int × ByteArray} (h:mpK x=true):x.2.size≤4*wsz (mpW w x):=by
 unfold mpK at h
 rw [Bool.and_eq_true] at h
 have h1:=runesBytes_size_le (zaA x.2)
 rw [okTo_back h.1] at h1
 have h2:(zaA x.2).length≤wsz (mpW w x):=by
  have:=wsz_len (mpW w x)
  unfold mpW at this ⊢
  simp only [List.length_cons,List.length_append,List.length_map,List.length_nil] at this
  omega
 omega
theorem tabOk_of {T:TV} (hk:okT T=true) (hs:(zhk T).size≤262144) (hl:T.Le 1000000):zgC T:=by
 obtain ⟨o1,o2,o3,o4,o5,o6,o7,o8⟩:=zir hk
 obtain ⟨t1,t2,t3⟩:=zk0 T
 refine ⟨hl.sc,hl.co,hl.ma,hl.pr,hl.fo,hl.lk,hl.dr,hl.al,fun x hx =>?_,fun x hx =>?_,fun x hx =>?_,fun x hx =>?_⟩
 ·have h1:=List.all_eq_true.1 o1 x hx
  unfold scK at h1
  rw [Bool.and_eq_true] at h1
  have h2:=zfu h1.1
  have h3:=zfE scW T.sc x hx
  have h4:=zkC x.2
  have h5:wsz (x.2.flatMap zdj)≤wsz (scW x):=by
   show _≤6+1+(x.1.size+1+(1+1+wsz (x.2.flatMap zdj++[⟨#[125]⟩])))
   rw [zbB]
   omega
  exact ⟨by unfold maxLen;omega,by omega⟩
 ·have h1:=List.all_eq_true.1 o3 x hx
  unfold maK zjQ at h1
  rw [Bool.and_eq_true,Bool.and_eq_true] at h1
  have h2:=of_decide_eq_true h1.1.1
  have h3:=of_decide_eq_true h1.1.2
  exact ⟨by omega,by omega⟩
 ·have h1:=zkl (w:=⟨#[102,111,108,100]⟩) (List.all_eq_true.1 o5 x hx)
  have h2:=zfE (mpW ⟨#[102,111,108,100]⟩) T.fo x hx
  unfold maxLen
  omega
 ·have h1:=zkl (w:=⟨#[108,111,111,107]⟩) (List.all_eq_true.1 o6 x hx)
  have h2:=zfE (mpW ⟨#[108,111,111,107]⟩) T.lk x hx
  unfold maxLen
  omega
theorem wsOf_le (s:ByteArray):(zcI s).length≤s.size+1:=by
 have:=(zjO s (s.size+1) 0 (1,1) [] (by simp)).2
 unfold zcI
 rw [List.length_map]
 exact Nat.le_trans this (by rw [List.length_nil];omega)
theorem zgc {s:ByteArray} (hs:s.size≤3000) {k:Nat} {T:TV} (h:zaD s=⟨k,none,T⟩):okT T=true∧(zhk T).size≤262144∧zgC T∧T.Le 1000000:=by
 have h1:=wsOf_le s
 obtain ⟨h2,h3,h4⟩:=parse_good (by omega) h
 have h5:T.Le 1000000:=zjC h4 (by omega)
 exact ⟨h2,by omega,tabOk_of h2 (by omega) h5,h5⟩
def TabA (w:World) (T:TV) (X:Array Value):Prop := ∃ a0 a1 a2 a3 a4 a5 a6 a7 c0 c1 c2 c3 c4 c5 c6 c7 us,X=zj2 T a0 a1 a2 a3 a4 a5 a6 a7 c0 c1 c2 c3 c4 c5 c6 c7∧TabIn w T a0 a1 a2 a3 a4 a5 a6 a7 us
theorem TabA.below {w w':World} {T:TV} {X:Array Value} (h:TabA w T X) (hb:Below w.heap.size w w'):TabA w' T X:=by
 obtain ⟨a0,a1,a2,a3,a4,a5,a6,a7,c0,c1,c2,c3,c4,c5,c6,c7,us,e,ht⟩:=h
 exact ⟨a0,a1,a2,a3,a4,a5,a6,a7,c0,c1,c2,c3,c4,c5,c6,c7,us,e,ht.lower hb⟩
theorem ze6 (T:TV) (hO:zgC T) (X Y:Array Value) (w:World) (hX:TabA w T X) (hY:TabA w T Y):Calls Tryz.prog 11 #[.agg X,.agg Y] w fun e w' =>e=.returned (.bool true)∧Below w.heap.size w w':=by
 obtain ⟨a0,a1,a2,a3,a4,a5,a6,a7,c0,c1,c2,c3,c4,c5,c6,c7,us,rfl,hx⟩:=hX
 obtain ⟨b0,b1,b2,b3,b4,b5,b6,b7,d0,d1,d2,d3,d4,d5,d6,d7,vs,rfl,hy⟩:=hY
 exact ziF T hO a0 a1 a2 a3 a4 a5 a6 a7 b0 b1 b2 b3 b4 b5 b6 b7 c0 c1 c2 c3 c4 c5 c6 c7 d0 d1 d2 d3 d4 d5 d6 d7 us vs w hx hy
theorem zhY (lo Tx:Nat) (vs:List Value) (T:TV) (eb el ec:Int) (hT:T.Le 1000000) (hO:zgC T) (w:World) (h:TbAt w lo Tx vs (zeN T (vs.drop 17)) eb el ec):Calls Tryz.prog 12 #[.pointer (some ⟨Tx,0,none⟩)] w fun e w' => ∃ X,e=.returned (.agg X)∧TabA w' T X∧Below w.heap.size w w':=by
 refine (zdf lo Tx vs T eb el ec hT (fun s hs =>(hO.z0 s hs).2) w h).mono ?_
 rintro e w' ⟨v,rfl,hta,hb⟩
 obtain ⟨a0,a1,a2,a3,a4,a5,a6,a7,c0,c1,c2,c3,c4,c5,c6,c7,us,rfl,ht,_⟩:=hta.inn
 exact ⟨_,rfl,⟨a0,a1,a2,a3,a4,a5,a6,a7,c0,c1,c2,c3,c4,c5,c6,c7,us,rfl,ht⟩,hb⟩
structure TyF (s:ByteArray) (T:TV) (m:Int) (L N:Nat) (w3:World) (RA TA:List Value):Prop where
 ok:zgC T
 le:T.Le 1000000
 all:T.All (Plc s)
 e:EnvK m w3
 hL:L=w3.heap.size
 b1:Blk w3 N RA.toArray 51
 sz:RA.length=17
 ts:TA.length=8
 o1:∀ v ∈ RA,v.oneCell'=true
 o2:∀ v ∈ TA,v.oneCell'=true
 tk:TA=RA.take 8
 ti:TabA w3 T TA.toArray
 wh:∀ (l r:Int) (w:World),Below L w3 w→Calls Tryz.prog 21 #[.string s,.agg RA.toArray,.int .i64 l,.int .i64 r] w fun e w' =>e=.returned (atV3 (zbR T (s.size:Nat) (zcl s) (zcm s) l r))∧Below w.heap.size w w'
theorem zhp {cs:List Value} (h:cs.length=17):∃ v0 v1 v2 v3 v4 v5 v6 v7 v8 v9 v10 v11 v12 v13 v14 v15 v16,cs=[v0,v1,v2,v3,v4,v5,v6,v7,v8,v9,v10,v11,v12,v13,v14,v15,v16]:=by
 obtain ⟨v0,v1,v2,v3,v4,v5,v6,v7,v8,v9,v10,v11,v12,v13,v14,v15,v16,us,rfl⟩:=zf0 cs (by omega)
 obtain rfl:us=[]:=by simp only [List.length_cons] at h;exact List.length_eq_zero_iff.1 (by omega)
 exact ⟨v0,v1,v2,v3,v4,v5,v6,v7,v8,v9,v10,v11,v12,v13,v14,v15,v16,rfl⟩
theorem TyF.lt {s:ByteArray} {T:TV} {m:Int} {L N:Nat} {w3 w:World} {v0 v1 v2 v3 v4 v5 v6 v7 v8 v9 v10 v11 v12 v13 v14 v15 v16:Value} {TA:List Value} (h:TyF s T m L N w3 [v0,v1,v2,v3,v4,v5,v6,v7,v8,v9,v10,v11,v12,v13,v14,v15,v16] TA) (hb:Below L w3 w):w.cell? ⟨N,0,none⟩=some v0∧w.cell? ⟨N,1,none⟩=some v1∧w.cell? ⟨N,2,none⟩=some v2∧w.cell? ⟨N,3,none⟩=some v3∧w.cell? ⟨N,4,none⟩=some v4∧w.cell? ⟨N,5,none⟩=some v5∧w.cell? ⟨N,6,none⟩=some v6∧w.cell? ⟨N,7,none⟩=some v7:=by
 have hk:Blk w N #[v0,v1,v2,v3,v4,v5,v6,v7,v8,v9,v10,v11,v12,v13,v14,v15,v16] 51:=h.b1.below (by rw [← h.hL];exact hb) h.b1.lt
 exact ⟨hk.cell 0,hk.cell 1,hk.cell 2,hk.cell 3,hk.cell 4,hk.cell 5,hk.cell 6,hk.cell 7⟩
theorem TyF.tab {s:ByteArray} {T:TV} {m:Int} {L N:Nat} {w3 w:World} {RA TA:List Value} (h:TyF s T m L N w3 RA TA) (hb:Below L w3 w):TabA w T TA.toArray:=h.ti.below (by rw [← h.hL];exact hb)
theorem refA_one (T:TV) (a0 a1 a2 a3 a4 a5 a6 a7 e0 e1 e2 e3 e4 e5 e6 e7 e8:Option Addr) (c0 c1 c2 c3 c4 c5 c6 c7 f0 f1 f2 f3 f4 f5 f6 f7 f8:Nat):∀ v ∈ (refA T a0 a1 a2 a3 a4 a5 a6 a7 e0 e1 e2 e3 e4 e5 e6 e7 e8 c0 c1 c2 c3 c4 c5 c6 c7 f0 f1 f2 f3 f4 f5 f6 f7 f8).toList,v.oneCell'=true:=by
 intro v hv
 have h:v ∈ [.slice a0 T.sc.length c0,.slice a1 T.co.length c1,.slice a2 T.ma.length c2,.slice a3 T.pr.length c3,.slice a4 T.fo.length c4,.slice a5 T.lk.length c5,.slice a6 T.dr.length c6,.slice a7 T.al.length c7,.slice e0 0 f0,.slice e1 T.r1.length f1,.slice e2 T.r2.length f2,.slice e3 T.r3.length f3,.slice e4 T.r4.length f4,.slice e5 T.r5.length f5,.slice e6 T.r6.length f6,.slice e7 T.r7.length f7,.slice e8 T.r8.length f8]:=hv
 simp only [List.mem_cons,List.not_mem_nil,or_false] at h
 rcases h with rfl | rfl | rfl | rfl | rfl | rfl | rfl | rfl | rfl | rfl | rfl | rfl | rfl | rfl | rfl | rfl | rfl <;> rfl
theorem tabV_one (T:TV) (a0 a1 a2 a3 a4 a5 a6 a7:Option Addr) (c0 c1 c2 c3 c4 c5 c6 c7:Nat):∀ v ∈ (zj2 T a0 a1 a2 a3 a4 a5 a6 a7 c0 c1 c2 c3 c4 c5 c6 c7).toList,v.oneCell'=true:=by
 intro v hv
 have h:v ∈ [.slice a0 T.sc.length c0,.slice a1 T.co.length c1,.slice a2 T.ma.length c2,.slice a3 T.pr.length c3,.slice a4 T.fo.length c4,.slice a5 T.lk.length c5,.slice a6 T.dr.length c6,.slice a7 T.al.length c7]:=hv
 simp only [List.mem_cons,List.not_mem_nil,or_false] at h
 rcases h with rfl | rfl | rfl | rfl | rfl | rfl | rfl | rfl <;> rfl
def RdOk (s:ByteArray) (T:TV) (w:World) (cs:List Value):Prop := ∃ a0 a1 a2 a3 a4 a5 a6 a7 e0 e1 e2 e3 e4 e5 e6 e7 e8 c0 c1 c2 c3 c4 c5 c6 c7 f0 f1 f2 f3 f4 f5 f6 f7 f8 us,cs.toArray=refA T a0 a1 a2 a3 a4 a5 a6 a7 e0 e1 e2 e3 e4 e5 e6 e7 e8 c0 c1 c2 c3 c4 c5 c6 c7 f0 f1 f2 f3 f4 f5 f6 f7 f8∧RefIn w T a0 a1 a2 a3 a4 a5 a6 a7 e0 e1 e2 e3 e4 e5 e6 e7 e8 us
theorem ty_start {s:ByteArray} {T:TV} {m:Int} {w1 w3:World} {cs:List Value} {N:Nat} (hs:s.size≤3000) (hok:zgC T) (hle:T.Le 1000000) (hall:T.All (Plc s)) (hR:RdOk s T w1 cs) (hb:Below w1.heap.size w1 w3) (hE:EnvK m w3) (hB:Blk w3 N cs.toArray 51):∃ TA,TyF s T m w3.heap.size N w3 cs TA:=by
 obtain ⟨a0,a1,a2,a3,a4,a5,a6,a7,e0,e1,e2,e3,e4,e5,e6,e7,e8,c0,c1,c2,c3,c4,c5,c6,c7,f0,f1,f2,f3,f4,f5,f6,f7,f8,us,e,hr⟩:=hR
 obtain rfl:cs=(refA T a0 a1 a2 a3 a4 a5 a6 a7 e0 e1 e2 e3 e4 e5 e6 e7 e8 c0 c1 c2 c3 c4 c5 c6 c7 f0 f1 f2 f3 f4 f5 f6 f7 f8).toList:=by rw [← e]
 refine ⟨(zj2 T a0 a1 a2 a3 a4 a5 a6 a7 c0 c1 c2 c3 c4 c5 c6 c7).toList,⟨hok,hle,hall,hE,rfl,hB,rfl,rfl,refA_one T a0 a1 a2 a3 a4 a5 a6 a7 e0 e1 e2 e3 e4 e5 e6 e7 e8 c0 c1 c2 c3 c4 c5 c6 c7 f0 f1 f2 f3 f4 f5 f6 f7 f8,tabV_one T a0 a1 a2 a3 a4 a5 a6 a7 c0 c1 c2 c3 c4 c5 c6 c7,rfl,⟨a0,a1,a2,a3,a4,a5,a6,a7,c0,c1,c2,c3,c4,c5,c6,c7,us,rfl,hr.ti.lower hb⟩, ?_⟩⟩
 intro l r w hw
 exact zk8 s (by omega) T hall hle a0 a1 a2 a3 a4 a5 a6 a7 e0 e1 e2 e3 e4 e5 e6 e7 e8 c0 c1 c2 c3 c4 c5 c6 c7 f0 f1 f2 f3 f4 f5 f6 f7 f8 us l r w ((hr.lower hb).lower hw)
end Go.Proofs.YtmdgejgokoadlaaGreatDoor
