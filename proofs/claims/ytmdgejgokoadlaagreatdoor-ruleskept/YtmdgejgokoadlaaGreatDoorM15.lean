/- Texts of this claim, one behind the other. -/
import Derived.Test.YtmdgejgokoadlaaGreatDoorM11
import Derived.Test.YtmdgejgokoadlaaGreatDoorM14
import Derived.Test.YtmdgejgokoadlaaGreatDoorM3
/- The reader of rules: one rule by its reader. -/
namespace Go.Proofs.YtmdgejgokoadlaaGreatDoor
open Go.RowKit Go.Shelf
set_option linter.unusedVariables false
def zgr (W0 W:World) (R Tx g lo:Nat) (ws:List W8) (k:Nat) (bad:Option Rf) (eb el ec:Int) (T:TV):Prop := ∃ vs,RuSt W0 W R Tx g lo ws k bad eb el ec vs (zeN T (vs.drop 17))
theorem zbd (vs:List Value) (i j:Nat) (a b:Value) (hi:i < 17) (hj:j < 17):((vs.set i a).set j b).drop 17=vs.drop 17:=by
 rw [List.drop_set_of_lt hj,List.drop_set_of_lt hi]
theorem zg2 (vs:List Value) (u:Value) (i j:Nat) (a b:Value) (hi:i < 17) (hj:j < 17) (hl:17≤vs.length):(((vs++[u]).set i a).set j b).drop 17=vs.drop 17++[u]:=by
 rw [List.drop_set_of_lt hj,List.drop_set_of_lt hi,List.drop_append_of_le_length hl]
theorem zkp (T:TV) (us:List Value):(zeN T us).length=T.sc.length+17:=by
 unfold zeN
 simp only [List.length_cons,List.length_map]
theorem zia (S:ByteArray):zfs S=none ↔ zaB S=0:=by
 unfold zfs zaB
 repeat' (split;· simp)
 simp
theorem zgM (S:ByteArray) (f:Nat) (h:zfs S=some f):(zaB S=1∧f=111)∨(zaB S=2∧f=112)∨(zaB S=3∧f=113)∨(zaB S=4∧f=114)∨(zaB S=5∧f=115)∨(zaB S=6∧f=116)∨(zaB S=7∧f=117)∨(zaB S=8∧f=118):=by
 by_cases h1:S=⟨#[115,99,114,105,112,116]⟩
 ·subst h1;injection h with h;exact .inl ⟨rfl,h.symm⟩
 by_cases h2:S=⟨#[99,111,109,109,111,110]⟩
 ·subst h2;injection h with h;exact .inr (.inl ⟨rfl,h.symm⟩)
 by_cases h3:S=⟨#[109,97,114,107]⟩
 ·subst h3;injection h with h;exact .inr (.inr (.inl ⟨rfl,h.symm⟩))
 by_cases h4:S=⟨#[112,97,105,114]⟩
 ·subst h4;injection h with h;exact .inr (.inr (.inr (.inl ⟨rfl,h.symm⟩)))
 by_cases h5:S=⟨#[102,111,108,100]⟩
 ·subst h5;injection h with h;exact .inr (.inr (.inr (.inr (.inl ⟨rfl,h.symm⟩))))
 by_cases h6:S=⟨#[108,111,111,107]⟩
 ·subst h6;injection h with h;exact .inr (.inr (.inr (.inr (.inr (.inl ⟨rfl,h.symm⟩)))))
 by_cases h7:S=⟨#[100,114,111,112]⟩
 ·subst h7;injection h with h;exact .inr (.inr (.inr (.inr (.inr (.inr (.inl ⟨rfl,h.symm⟩))))))
 by_cases h8:S=⟨#[97,108,108,111,119]⟩
 ·subst h8;injection h with h;exact .inr (.inr (.inr (.inr (.inr (.inr (.inr (⟨rfl,h.symm⟩)))))))
 unfold zfs at h
 rw [if_neg h1,if_neg h2,if_neg h3,if_neg h4,if_neg h5,if_neg h6,if_neg h7,if_neg h8] at h
 cases h
theorem zjb (R Tx g lo:Nat) (ws:List W8) (eb el ec:Int) (k:Nat) (x:W8) (T:TV) (hT:T.Le k) (hk:k≤1000000) (hr:zaB x.S=1) (hS:∀ y ∈ ws,y.S.size≤262144) (W0 W:World) (h:zgr W0 W R Tx g lo ws (k+1) none eb el ec T) :
  Calls Tryz.prog 111 #[.pointer (some ⟨R,0,none⟩),.agg #[.int .i64 x.b,.int .i64 x.l,.int .i64 x.c]] W fun e w' =>(∃ r,e=.returned r)∧zgr W0 w' R Tx g lo ws (zau ws eb el ec k x T).k (zau ws eb el ec k x T).bad eb el ec (zau ws eb el ec k x T).T:=by
 obtain ⟨vs,h⟩:=h
 have hlv:=h.tb.lv
 have hll:=h.tb.ll
 have hnm:(zaU ws (k+1) none eb el ec).nm.size≤262144:=by
  show (zaa ws (k+1) none eb el ec 1).x.S.size≤262144
  unfold zaa
  split
  ·rename_i y h1 h2;exact hS y (List.mem_of_getElem? h2)
  ·show (⟨#[]⟩:ByteArray).size≤262144;decide
 refine (zk7 R Tx g lo ws (k+1) none eb el ec x.b x.l x.c vs _ T.sc.length T.r1.length (zbQ T.sc (vs.drop 17)) (za6 T.r1) rfl rfl (by have:=hT.sc;omega) (by have:=hT.r1;omega) hnm W0 W h).mono ?_
 rintro e w' ⟨h1,sv,va,vb,h2⟩
 unfold zau
 rw [hr]
 simp only [zbi]
 refine ⟨h1,((vs++[sv]).set 0 va).set 9 vb, ?_⟩
 show RuSt W0 w' R Tx g lo ws (zaU ws (k+1) none eb el ec).sp.k (zaU ws (k+1) none eb el ec).sp.bad eb el ec (((vs++[sv]).set 0 va).set 9 vb) (zeN _ ((((vs++[sv]).set 0 va).set 9 vb).drop 17))
 rw [zg2 vs sv 0 9 va vb (by omega) (by omega) hlv]
 have e1:T.sc.length=(vs.drop 17).length:=by
  rw [List.length_drop, ← hll,zkp]
  omega
 unfold zeN
 dsimp only
 rw [zg0 _ _ _ _ e1,zcp,List.length_append,List.length_append,List.map_append]
 exact h2
theorem zjc (R Tx g lo:Nat) (ws:List W8) (eb el ec:Int) (k:Nat) (x:W8) (T:TV) (hT:T.Le k) (hk:k≤1000000) (hr:zaB x.S=2) (hS:∀ y ∈ ws,y.S.size≤262144) (W0 W:World) (h:zgr W0 W R Tx g lo ws (k+1) none eb el ec T) :
  Calls Tryz.prog 112 #[.pointer (some ⟨R,0,none⟩),.agg #[.int .i64 x.b,.int .i64 x.l,.int .i64 x.c]] W fun e w' =>(∃ r,e=.returned r)∧zgr W0 w' R Tx g lo ws (zau ws eb el ec k x T).k (zau ws eb el ec k x T).bad eb el ec (zau ws eb el ec k x T).T:=by
 obtain ⟨vs,h⟩:=h
 have hlv:=h.tb.lv
 have hll:=h.tb.ll
 refine (common_any R Tx g lo ws (k+1) none eb el ec (.bool true) vs _ T.co.length T.r2.length (zap T.co) (za6 T.r2) rfl rfl (by have:=hT.co;omega) (by have:=hT.r2;omega) x.b x.l x.c W0 W h).mono ?_
 rintro e w' ⟨h1,va,vb,h2⟩
 unfold zau
 rw [hr]
 simp only [zbi]
 refine ⟨h1,(vs.set 1 va).set 10 vb, ?_⟩
 show RuSt W0 w' R Tx g lo ws (zaf ws (k+1) none eb el ec).k (zaf ws (k+1) none eb el ec).bad eb el ec ((vs.set 1 va).set 10 vb) (zeN _ (((vs.set 1 va).set 10 vb).drop 17))
 rw [zbd vs 1 10 va vb (by omega) (by omega)]
 unfold zeN
 dsimp only
 rw [zdr,zcp,List.length_append,List.length_append]
 exact h2
theorem rule_mark (R Tx g lo:Nat) (ws:List W8) (eb el ec:Int) (k:Nat) (x:W8) (T:TV) (hT:T.Le k) (hk:k≤1000000) (hr:zaB x.S=3) (hS:∀ y ∈ ws,y.S.size≤262144) (W0 W:World) (h:zgr W0 W R Tx g lo ws (k+1) none eb el ec T) :
  Calls Tryz.prog 113 #[.pointer (some ⟨R,0,none⟩),.agg #[.int .i64 x.b,.int .i64 x.l,.int .i64 x.c]] W fun e w' =>(∃ r,e=.returned r)∧zgr W0 w' R Tx g lo ws (zau ws eb el ec k x T).k (zau ws eb el ec k x T).bad eb el ec (zau ws eb el ec k x T).T:=by
 obtain ⟨vs,h⟩:=h
 have hlv:=h.tb.lv
 have hll:=h.tb.ll
 refine (mark_any R Tx g lo ws (k+1) none eb el ec x.b x.l x.c vs _ T.ma.length T.r3.length (zco T.ma) (za6 T.r3) rfl rfl (by have:=hT.ma;omega) (by have:=hT.r3;omega) W0 W h).mono ?_
 rintro e w' ⟨h1,va,vb,h2⟩
 unfold zau
 rw [hr]
 simp only [zbi]
 refine ⟨h1,(vs.set 2 va).set 11 vb, ?_⟩
 show RuSt W0 w' R Tx g lo ws (zcn ws (k+1) none eb el ec).k (zcn ws (k+1) none eb el ec).bad eb el ec ((vs.set 2 va).set 11 vb) (zeN _ (((vs.set 2 va).set 11 vb).drop 17))
 rw [zbd vs 2 11 va vb (by omega) (by omega)]
 unfold zeN
 dsimp only
 rw [ziR,zcp,List.length_append,List.length_append]
 exact h2
theorem rule_pair (R Tx g lo:Nat) (ws:List W8) (eb el ec:Int) (k:Nat) (x:W8) (T:TV) (hT:T.Le k) (hk:k≤1000000) (hr:zaB x.S=4) (hS:∀ y ∈ ws,y.S.size≤262144) (W0 W:World) (h:zgr W0 W R Tx g lo ws (k+1) none eb el ec T) :
  Calls Tryz.prog 114 #[.pointer (some ⟨R,0,none⟩),.agg #[.int .i64 x.b,.int .i64 x.l,.int .i64 x.c]] W fun e w' =>(∃ r,e=.returned r)∧zgr W0 w' R Tx g lo ws (zau ws eb el ec k x T).k (zau ws eb el ec k x T).bad eb el ec (zau ws eb el ec k x T).T:=by
 obtain ⟨vs,h⟩:=h
 have hlv:=h.tb.lv
 have hll:=h.tb.ll
 refine (pair_any R Tx g lo ws (k+1) none eb el ec x.b x.l x.c vs _ T.pr.length T.r4.length (zch T.pr) (za6 T.r4) rfl rfl (by have:=hT.pr;omega) (by have:=hT.r4;omega) W0 W h).mono ?_
 rintro e w' ⟨h1,va,vb,h2⟩
 unfold zau
 rw [hr]
 simp only [zbi]
 refine ⟨h1,(vs.set 3 va).set 12 vb, ?_⟩
 show RuSt W0 w' R Tx g lo ws (zb5 ws (k+1) none eb el ec).k (zb5 ws (k+1) none eb el ec).bad eb el ec ((vs.set 3 va).set 12 vb) (zeN _ (((vs.set 3 va).set 12 vb).drop 17))
 rw [zbd vs 3 12 va vb (by omega) (by omega)]
 unfold zeN
 dsimp only
 rw [ziQ,zcp,List.length_append,List.length_append]
 exact h2
theorem rule_fold (R Tx g lo:Nat) (ws:List W8) (eb el ec:Int) (k:Nat) (x:W8) (T:TV) (hT:T.Le k) (hk:k≤1000000) (hr:zaB x.S=5) (hS:∀ y ∈ ws,y.S.size≤262144) (W0 W:World) (h:zgr W0 W R Tx g lo ws (k+1) none eb el ec T) :
  Calls Tryz.prog 115 #[.pointer (some ⟨R,0,none⟩),.agg #[.int .i64 x.b,.int .i64 x.l,.int .i64 x.c]] W fun e w' =>(∃ r,e=.returned r)∧zgr W0 w' R Tx g lo ws (zau ws eb el ec k x T).k (zau ws eb el ec k x T).bad eb el ec (zau ws eb el ec k x T).T:=by
 obtain ⟨vs,h⟩:=h
 have hlv:=h.tb.lv
 have hll:=h.tb.ll
 refine (fold_any R Tx g lo ws (k+1) none eb el ec x.b x.l x.c vs _ T.fo.length T.r5.length (zbu T.fo) (za6 T.r5) rfl rfl (by have:=hT.fo;omega) (by have:=hT.r5;omega) W0 W h).mono ?_
 rintro e w' ⟨h1,va,vb,h2⟩
 unfold zau
 rw [hr]
 simp only [zbi]
 refine ⟨h1,(vs.set 4 va).set 13 vb, ?_⟩
 show RuSt W0 w' R Tx g lo ws (zcc ws (k+1) none eb el ec).k (zcc ws (k+1) none eb el ec).bad eb el ec ((vs.set 4 va).set 13 vb) (zeN _ (((vs.set 4 va).set 13 vb).drop 17))
 rw [zbd vs 4 13 va vb (by omega) (by omega)]
 unfold zeN
 dsimp only
 rw [zeU,zcp,List.length_append,List.length_append]
 exact h2
theorem rule_look (R Tx g lo:Nat) (ws:List W8) (eb el ec:Int) (k:Nat) (x:W8) (T:TV) (hT:T.Le k) (hk:k≤1000000) (hr:zaB x.S=6) (hS:∀ y ∈ ws,y.S.size≤262144) (W0 W:World) (h:zgr W0 W R Tx g lo ws (k+1) none eb el ec T) :
  Calls Tryz.prog 116 #[.pointer (some ⟨R,0,none⟩),.agg #[.int .i64 x.b,.int .i64 x.l,.int .i64 x.c]] W fun e w' =>(∃ r,e=.returned r)∧zgr W0 w' R Tx g lo ws (zau ws eb el ec k x T).k (zau ws eb el ec k x T).bad eb el ec (zau ws eb el ec k x T).T:=by
 obtain ⟨vs,h⟩:=h
 have hlv:=h.tb.lv
 have hll:=h.tb.ll
 refine (look_any R Tx g lo ws (k+1) none eb el ec x.b x.l x.c vs _ T.lk.length T.r6.length (zbu T.lk) (za6 T.r6) rfl rfl (by have:=hT.lk;omega) (by have:=hT.r6;omega) W0 W h).mono ?_
 rintro e w' ⟨h1,va,vb,h2⟩
 unfold zau
 rw [hr]
 simp only [zbi]
 refine ⟨h1,(vs.set 5 va).set 14 vb, ?_⟩
 show RuSt W0 w' R Tx g lo ws (zcc ws (k+1) none eb el ec).k (zcc ws (k+1) none eb el ec).bad eb el ec ((vs.set 5 va).set 14 vb) (zeN _ (((vs.set 5 va).set 14 vb).drop 17))
 rw [zbd vs 5 14 va vb (by omega) (by omega)]
 unfold zeN
 dsimp only
 rw [zeU,zcp,List.length_append,List.length_append]
 exact h2
theorem rule_drop (R Tx g lo:Nat) (ws:List W8) (eb el ec:Int) (k:Nat) (x:W8) (T:TV) (hT:T.Le k) (hk:k≤1000000) (hr:zaB x.S=7) (hS:∀ y ∈ ws,y.S.size≤262144) (W0 W:World) (h:zgr W0 W R Tx g lo ws (k+1) none eb el ec T) :
  Calls Tryz.prog 117 #[.pointer (some ⟨R,0,none⟩),.agg #[.int .i64 x.b,.int .i64 x.l,.int .i64 x.c]] W fun e w' =>(∃ r,e=.returned r)∧zgr W0 w' R Tx g lo ws (zau ws eb el ec k x T).k (zau ws eb el ec k x T).bad eb el ec (zau ws eb el ec k x T).T:=by
 obtain ⟨vs,h⟩:=h
 have hlv:=h.tb.lv
 have hll:=h.tb.ll
 refine (drop_any R Tx g lo ws (k+1) none eb el ec (.bool true) vs _ T.dr.length T.r7.length (zap T.dr) (za6 T.r7) rfl rfl (by have:=hT.dr;omega) (by have:=hT.r7;omega) x.b x.l x.c W0 W h).mono ?_
 rintro e w' ⟨h1,va,vb,h2⟩
 unfold zau
 rw [hr]
 simp only [zbi]
 refine ⟨h1,(vs.set 6 va).set 15 vb, ?_⟩
 show RuSt W0 w' R Tx g lo ws (zaf ws (k+1) none eb el ec).k (zaf ws (k+1) none eb el ec).bad eb el ec ((vs.set 6 va).set 15 vb) (zeN _ (((vs.set 6 va).set 15 vb).drop 17))
 rw [zbd vs 6 15 va vb (by omega) (by omega)]
 unfold zeN
 dsimp only
 rw [zdr,zcp,List.length_append,List.length_append]
 exact h2
theorem zlb (R Tx g lo:Nat) (ws:List W8) (eb el ec:Int) (k:Nat) (x:W8) (T:TV) (hT:T.Le k) (hk:k≤1000000) (hr:zaB x.S=8) (hS:∀ y ∈ ws,y.S.size≤262144) (W0 W:World) (h:zgr W0 W R Tx g lo ws (k+1) none eb el ec T) :
  Calls Tryz.prog 118 #[.pointer (some ⟨R,0,none⟩),.agg #[.int .i64 x.b,.int .i64 x.l,.int .i64 x.c]] W fun e w' =>(∃ r,e=.returned r)∧zgr W0 w' R Tx g lo ws (zau ws eb el ec k x T).k (zau ws eb el ec k x T).bad eb el ec (zau ws eb el ec k x T).T:=by
 obtain ⟨vs,h⟩:=h
 have hlv:=h.tb.lv
 have hll:=h.tb.ll
 refine (allow_any R Tx g lo ws (k+1) none eb el ec (.bool true) vs _ T.al.length T.r8.length (zap T.al) (za6 T.r8) rfl rfl (by have:=hT.al;omega) (by have:=hT.r8;omega) x.b x.l x.c W0 W h).mono ?_
 rintro e w' ⟨h1,va,vb,h2⟩
 unfold zau
 rw [hr]
 simp only [zbi]
 refine ⟨h1,(vs.set 7 va).set 16 vb, ?_⟩
 show RuSt W0 w' R Tx g lo ws (zaf ws (k+1) none eb el ec).k (zaf ws (k+1) none eb el ec).bad eb el ec ((vs.set 7 va).set 16 vb) (zeN _ (((vs.set 7 va).set 16 vb).drop 17))
 rw [zbd vs 7 16 va vb (by omega) (by omega)]
 unfold zeN
 dsimp only
 rw [zdr,zcp,List.length_append,List.length_append]
 exact h2
theorem rule_any (f:Nat) (R Tx g lo:Nat) (ws:List W8) (eb el ec:Int) (k:Nat) (x:W8) (T:TV) (hT:T.Le k) (hk:k≤1000000) (hf:zfs x.S=some f) (hS:∀ y ∈ ws,y.S.size≤262144) (W0 W:World) (h:zgr W0 W R Tx g lo ws (k+1) none eb el ec T) :
  Calls Tryz.prog f #[.pointer (some ⟨R,0,none⟩),.agg #[.int .i64 x.b,.int .i64 x.l,.int .i64 x.c]] W fun e w' =>(∃ r,e=.returned r)∧zgr W0 w' R Tx g lo ws (zau ws eb el ec k x T).k (zau ws eb el ec k x T).bad eb el ec (zau ws eb el ec k x T).T:=by
 rcases zgM x.S f hf with ⟨hr,rfl⟩ | ⟨hr,rfl⟩ | ⟨hr,rfl⟩ | ⟨hr,rfl⟩ | ⟨hr,rfl⟩ | ⟨hr,rfl⟩ | ⟨hr,rfl⟩ | ⟨hr,rfl⟩
 ·exact zjb R Tx g lo ws eb el ec k x T hT hk hr hS W0 W h
 ·exact zjc R Tx g lo ws eb el ec k x T hT hk hr hS W0 W h
 ·exact rule_mark R Tx g lo ws eb el ec k x T hT hk hr hS W0 W h
 ·exact rule_pair R Tx g lo ws eb el ec k x T hT hk hr hS W0 W h
 ·exact rule_fold R Tx g lo ws eb el ec k x T hT hk hr hS W0 W h
 ·exact rule_look R Tx g lo ws eb el ec k x T hT hk hr hS W0 W h
 ·exact rule_drop R Tx g lo ws eb el ec k x T hT hk hr hS W0 W h
 ·exact zlb R Tx g lo ws eb el ec k x T hT hk hr hS W0 W h
def nils17:List Value:=List.replicate 17 (.slice none 0 0)
def zjl (W:World) (R:Nat):Nat:=match W.cell? ⟨R,0,none⟩ with
 | some (.slice _ n _) =>n
 | _ =>0
theorem zgO {W:World} {R Tx g:Nat} {ws:List W8} {k:Nat} {bad:Option Rf} (h:RdAt W R Tx g ws k bad):zjl W R=ws.length - k:=by
 obtain ⟨a,c,v,hb,ha,hc,hv⟩:=h.blk
 have c0:W.cell? ⟨R,0,none⟩=some (.slice a (ws.length - k) c):=hb.cell 0
 unfold zjl
 rw [c0]
theorem lsOf_nil:zeN TV0 (nils17.drop 17)=[Ln.mk 71 2 0 [],Ln.mk 73 2 0 [],Ln.mk 93 2 0 [],Ln.mk 96 3 0 [],Ln.mk 75 2 0 [],Ln.mk 75 2 0 [],Ln.mk 73 2 0 [],Ln.mk 73 2 0 [],Ln.mk 53 3 0 [],Ln.mk 53 3 0 [],Ln.mk 53 3 0 [],Ln.mk 53 3 0 [],Ln.mk 53 3 0 [],Ln.mk 53 3 0 [],Ln.mk 53 3 0 [],Ln.mk 53 3 0 [],Ln.mk 53 3 0 []]:=rfl
theorem nil_all (l:Ln) (i:Nat) (h:(zeN TV0 (nils17.drop 17))[i]?=some l):l.n=0∧l.xs=[]:=by
 have hm:=List.mem_of_getElem? h
 rw [lsOf_nil] at hm
 simp only [List.mem_cons,List.not_mem_nil,or_false] at hm
 rcases hm with rfl | rfl | rfl | rfl | rfl | rfl | rfl | rfl | rfl | rfl | rfl | rfl | rfl | rfl | rfl | rfl | rfl <;> exact ⟨rfl,rfl⟩
theorem zfK (v:Value) (i:Nat) (h:nils17[i]?=some v):v=.slice none 0 0:=List.eq_of_mem_replicate (List.mem_of_getElem? h)
theorem start_tb {W:World} {Tx lo:Nat} {eb el ec:Int} (hb:Blk W Tx (nils17++[Value.int .i64 eb,.int .i64 el,.int .i64 ec]).toArray 85) (hlo:Tx < lo):TbAt W lo Tx nils17 (zeN TV0 (nils17.drop 17)) eb el ec:=by
 refine ⟨by decide,rfl,hb,fun i v l hv hl =>?_,fun i j v u _ hv _ =>?_,hlo⟩
 ·obtain rfl:=zfK v i hv
  obtain ⟨h1,h2⟩:=nil_all l i hl
  rw [h1,h2]
  exact World.ownsRow_nil _ _ _ _
 ·obtain rfl:=zfK v i hv
  exact .inl rfl
theorem zi1:TV0.Le 0:=⟨Nat.le_refl _,Nat.le_refl _,Nat.le_refl _,Nat.le_refl _,Nat.le_refl _,Nat.le_refl _,Nat.le_refl _,Nat.le_refl _,Nat.le_refl _,Nat.le_refl _,Nat.le_refl _,Nat.le_refl _,Nat.le_refl _,Nat.le_refl _,Nat.le_refl _,Nat.le_refl _⟩
theorem field_at (a:Int) (b:ByteArray) (c d e f g h:Int) (w:World):(Instr.field 147 (.agg #[.int .i64 a,.string b,.int .i32 c,.int .i64 d,.int .i64 e,.int .i64 f,.int .i64 g,.int .i64 h]) 4).run Tryz.prog w=.ok (.agg #[.int .i64 e,.int .i64 f,.int .i64 g]) w:=by kernel_rfl
set_option maxRecDepth 100000 in
set_option maxHeartbeats 4000000 in
theorem rules_any (R Tx g:Nat) (ws:List W8) (eb el ec:Int) (hN:∀ x ∈ ws,zaB x.S≠0→x.k=1) (hS:∀ x ∈ ws,x.S.size≤262144) (W:World) (h:RdE W R Tx g ws 0 none eb el ec) (hb:Blk W Tx (nils17++[Value.int .i64 eb,.int .i64 el,.int .i64 ec]).toArray 85) (hgT:g≠Tx) :
  Calls Tryz.prog 25 #[.pointer (some ⟨R,0,none⟩)] W fun e w' =>(∃ r,e=.returned r)∧∃ lo W0,W.heap.size≤lo∧W.grownBy W0 none∧lo=W0.heap.size∧zgr W0 w' R Tx g lo ws (zfr ws eb el ec).k (zfr ws eb el ec).bad eb el ec (zfr ws eb el ec).T:=by
 have hRW:R < W.heap.size:=by obtain ⟨a,c,v,hb,_⟩:=h.rd.blk;exact hb.lt
 have hTW:Tx < W.heap.size:=hb.lt
 have hgl:=h.rd.glt
 have hnm:=h.rd.nmax
 have HF:Hz (RgSt ws eb el ec (zfr ws eb el ec) (ws.length+1) 0 none TV0):=kz ⟨rfl,by omega,Nat.zero_le _,zi1⟩
 generalize zfr ws eb el ec=F at *
 have H:=kz (And.intro h hb)
 have HGL:=kz hgl
 have HN:=kz hN
 have HS:=kz hS
 clear h hb hgl hN hS
 go_enter Tryz.func25,Tryz.ntmps25
 go_wp2_with fail
 refine (zjn W).mono ?_
 rintro e w1 ⟨B,rfl,hmap,hBW,hg1⟩
 have hsz:=hg1.size
 have HP:Hz (zgr w1 w1 R Tx g w1.heap.size ws 0 none eb el ec TV0):=kz ⟨nils17,(oz H).1.none hg1,start_tb ((oz H).2.kept hg1 (by simp)) (by omega),Fr.refl _ _ _ _,Nat.le_refl _,by omega,hgT,fun j y hy =>by have:=oz HGL j y hy;omega⟩
 have HM:=kz hmap
 have HG1:=kz hg1
 have hBl:B < w1.heap.size:=hmap.lt
 have hBR:B≠R:=by omega
 have hBT:B≠Tx:=by omega
 clear hmap hg1 H
 go_wp2_with fail
 go_loopw [3,4] (fun _ _ wr => ∃ (f k:Nat) (bad:Option Rf) (T:TV),Hz (RgSt ws eb el ec F f k bad T)∧Hz (zgr w1 wr R Tx g w1.heap.size ws k bad eb el ec T))
  (fun _ _ wr =>zjl wr R)
 case atStart =>exact ⟨_,0,none,TV0,HF,HP⟩
 case round =>
  obtain ⟨f,k,bad,T,HG,HQ⟩:=hrel
  clear HF HP
  obtain ⟨a,c,v,hb,ha,hc,hv⟩:=(oz HQ).choose_spec.rd.rd.blk
  have hkn:=(oz HG).le
  have c0:=hb.cell 0
  have c2:=hb.cell 2
  have HFr:=kz (oz HQ).choose_spec.fr
  have HMr:Hz (wr.ownsMap Tryz.prog 9 zce B 8 rdD):=kz (by
   have hf:=oz HFr
   obtain ⟨es,clock,h1,h2⟩:=oz HM
   exact ⟨es,clock,(hf.block B hBl hBR hBT).trans h1,h2⟩)
  cases bad with
  | some z =>
   obtain ⟨Fz,rfl,_,hFz⟩:=hv
   have HE:=kz ((oz HG).stop (.inl (by simp)))
   clear hFz hb ha hc
   rcases Nat.eq_zero_or_pos (ws.length - k) with h0 | h0
   ·rw [h0] at c0
    clear h0 hkn
    go_wp2_with fail
    go_end0
    exact ⟨⟨_,rfl⟩,_,w1,hsz,oz HG1,rfl,by rw [oz HE];exact oz HQ⟩
   ·obtain ⟨m,hm⟩:∃ m,m=ws.length - k:=⟨_,rfl⟩
    rw [← hm] at c0 h0
    have hpos:(0:Int) < (m:Int):=by omega
    clear hm h0 hkn
    go_wp2_with fail
    go_end0
    exact ⟨⟨_,rfl⟩,_,w1,hsz,oz HG1,rfl,by rw [oz HE];exact oz HQ⟩
  | none =>
   subst hv
   cases hx:ws[k]? with
   | none =>
    have HE:=kz ((oz HG).stop (.inr hx))
    have h0:ws.length - k=0:=by have:=List.getElem?_eq_none_iff.1 hx;omega
    rw [h0] at c0
    clear h0 hkn hb ha hc hx
    go_wp2_with fail
    go_end0
    exact ⟨⟨_,rfl⟩,_,w1,hsz,oz HG1,rfl,by rw [oz HE];exact oz HQ⟩
   | some x =>
    have hlt:=(List.getElem?_eq_some_iff.1 hx).1
    obtain rfl:=ha hlt
    have hmem:=List.mem_of_getElem? hx
    have w1':wr.cell? ⟨g,8*k+1,none⟩=some (.string x.S):=(oz HQ).choose_spec.rd.rd.words k x hx 1 _ rfl
    have hlook:=rd_look (oz HMr) x.S (oz HS x hmem)
    have HX:=kz hx
    have HMEM:=kz hmem
    have HREST:=kz (zgO (oz HQ).choose_spec.rd.rd)
    have HLT:=kz hlt
    have hpos:(0:Int) < ((ws.length - k:Nat):Int):=by omega
    have hpos2:0 < ws.length - k:=by omega
    obtain ⟨m,hm⟩:∃ m,m=ws.length - k:=⟨_,rfl⟩
    rw [← hm] at c0 hpos hpos2
    clear hx hmem hb ha hc hm hlt HMr HFr
    cases hf:zfs x.S with
    | none =>
     rw [hf] at hlook
     dsimp only at hlook
     have HE:=kz ((oz HG).no (oz HX) ((zia x.S).1 hf))
     have HRF:=kz (zgP R Tx g ws k none eb el ec wr (oz HQ).choose_spec.rd.rd (oz HQ).choose_spec.rd.en)
     clear hf
     go_wp2_with fail
     refine (oz HRF).mono ?_
     rintro e w2 ⟨⟨r,rfl⟩,hrd,hg2⟩
     have HQ2:Hz (zgr w1 w2 R Tx g w1.heap.size ws k (some (zeA ws k eb el ec)) eb el ec T):=kz ⟨_,(oz HQ).choose_spec.call ((oz HQ).choose_spec.rd.step hrd hg2) hg2⟩
     clear hrd hg2
     go_wp2_with fail
     first
     | exact bodyPost_ret (results_none rfl _ _ _) rfl ⟨⟨_,rfl⟩,_,w1,hsz,oz HG1,rfl,by rw [oz HE];exact oz HQ2⟩
     | (go_end0;exact ⟨⟨_,rfl⟩,_,w1,hsz,oz HG1,rfl,by rw [oz HE];exact oz HQ2⟩)
    | some fn =>
     rw [hf] at hlook
     dsimp only at hlook
     have hr0:zaB x.S≠0:=fun e =>by rw [(zia x.S).2 e] at hf;cases hf
     have hsee:zaJ ws k none 1=true:=by
      unfold zaJ
      rw [oz HX]
      dsimp only
      rw [oz HN x (oz HMEM) hr0]
      rfl
     have HTK:=kz (zbS R Tx g ws k none eb el ec 1 wr (oz HQ).choose_spec.rd)
     rw [show zaa ws k none eb el ec 1=⟨x,k+1,none⟩ by unfold zaa;rw [hsee,oz HX]] at HTK
     dsimp only at HTK
     obtain ⟨f',hnx⟩:=(oz HG).next (oz HX) hr0
     have hkb:k≤1000000:=by omega
     have HNX:=kz hnx
     have HRL:=kz (zea ws eb el ec k x (oz HX) T (oz HG).tl hr0)
     have HRU:=kz (fun (w:World) =>rule_any fn R Tx g w1.heap.size ws eb el ec k x T (oz HG).tl hkb hf (oz HS) w1 w)
     have HCS:=kz (zgM x.S fn hf)
     clear hnx hsee hf hr0
     unfold wV at HTK
     have hfa:=field_at x.k x.S x.r x.n x.b x.l x.c x.e
     go_wp2_with fail
     refine (oz HTK).mono ?_
     rintro e w2 ⟨rfl,hrd,hg2⟩
     have HQ2:Hz (zgr w1 w2 R Tx g w1.heap.size ws (k+1) none eb el ec T):=kz ⟨_,(oz HQ).choose_spec.call hrd hg2⟩
     clear hrd hg2 HTK
     rcases oz HCS with ⟨_,rfl⟩ | ⟨_,rfl⟩ | ⟨_,rfl⟩ | ⟨_,rfl⟩ | ⟨_,rfl⟩ | ⟨_,rfl⟩ | ⟨_,rfl⟩ | ⟨_,rfl⟩
     all_goals
      go_wp2_with fail
      refine (oz HRU w2 (oz HQ2)).mono ?_
      rintro e w3 ⟨⟨r,rfl⟩,hq3⟩
      have HQ3:=kz hq3
      have HR3:=kz (zgO hq3.choose_spec.rd.rd)
      clear hq3
      go_wp2_with fail
      go_roundw
      case rel =>exact ⟨f',_,_,_,HNX,HQ3⟩
      case measure =>rw [oz HR3,oz HREST];have:=oz HRL;have:=oz HLT;omega
theorem wordV_S (t:ByteArray):(zac t).S.size≤t.size∧((zac t).S≠ByteArray.empty→(zac t).kind=1):=by
 unfold zac
 split
 ·exact ⟨by show (t.extract 0 (zao t)).size≤t.size;rw [ByteArray.size_extract];omega,fun _ =>rfl⟩
 ·split
  ·exact ⟨Nat.zero_le _,fun h =>absurd rfl h⟩
  ·split
   ·exact ⟨Nat.zero_le _,fun h =>absurd rfl h⟩
   ·split
    ·exact ⟨Nat.zero_le _,fun h =>absurd rfl h⟩
    ·exact ⟨Nat.zero_le _,fun h =>absurd rfl h⟩
theorem zjO (s:ByteArray) (f:Nat):∀ (b:Nat) (x:Nat × Nat) (ws:List Wd),(∀ w ∈ ws,w.v.S.size≤s.size∧(w.v.S≠ByteArray.empty→w.v.kind=1))→(∀ w ∈ (cutGo s f b x ws).ws,w.v.S.size≤s.size∧(w.v.S≠ByteArray.empty→w.v.kind=1))∧(cutGo s f b x ws).ws.length≤ws.length+f:=by
 induction f with
 | zero =>intro b x ws h;exact ⟨h,Nat.le_refl _⟩
 | succ f ih =>
  intro b x ws h
  unfold cutGo
  split
  ·exact ⟨h,by show ws.length≤_;omega⟩
  ·split
   ·exact ⟨h,by show ws.length≤_;omega⟩
   ·split
    ·exact ⟨h,by show ws.length≤_;omega⟩
    ·have h2:=ih (gB s b+(zac (rst s (gB s b))).n) (lcB (rst s (gB s b)) (gLC s b x) (zac (rst s (gB s b))).n) (ws++[⟨zac (rst s (gB s b)),gB s b,(gLC s b x).1,(gLC s b x).2,gB s b+(zac (rst s (gB s b))).n⟩]) (by
      intro w hw
      rcases List.mem_append.1 hw with hw | hw
      ·exact h w hw
      ·rw [List.mem_singleton.1 hw]
       have:=wordV_S (rst s (gB s b))
       exact ⟨by show (zac (rst s (gB s b))).S.size≤s.size;have h3:=zah s (gB s b);omega,this.2⟩)
     refine ⟨h2.1, ?_⟩
     have h3:=h2.2
     rw [List.length_append,List.length_singleton] at h3
     omega
def zcI (s:ByteArray):List W8:=(zan s).ws.map w8
theorem zfF (s:ByteArray) (hs:s.size≤262144):(zcI s).length≤262145:=by
 have:=(zjO s (s.size+1) 0 (1,1) [] (by simp)).2
 unfold zcI
 rw [List.length_map]
 exact Nat.le_trans this (by rw [List.length_nil];omega)
theorem zjX (s:ByteArray) (hs:s.size≤262144):(∀ x ∈ zcI s,zaB x.S≠0→x.k=1)∧∀ x ∈ zcI s,x.S.size≤262144:=by
 have h:=(zjO s (s.size+1) 0 (1,1) [] (by simp)).1
 refine ⟨fun x hx hr =>?_,fun x hx =>?_⟩
 ·obtain ⟨y,hy,rfl⟩:=List.mem_map.1 hx
  have:=(h y hy).2 (fun e =>hr (by show zaB y.v.S=0;rw [e];rfl))
  show ((y.v.kind:Nat):Int)=1
  rw [this];rfl
 ·obtain ⟨y,hy,rfl⟩:=List.mem_map.1 hx
  have:=(h y hy).1
  show y.v.S.size≤262144
  omega
def zcl (s:ByteArray):Int:=((whL s s.size).1:Nat)
def zcm (s:ByteArray):Int:=((whL s s.size).2:Nat)
def zbP (s:ByteArray):Ps:=zfr (zcI s) (s.size:Nat) (zcl s) (zcm s)
def zfS (W W':World) (s:ByteArray) (P:Ps) (v er:Value):Prop:=match P.bad with
 | none =>er=.nilIface∧∃ Tx lo vs,v=.pointer (some ⟨Tx,0,none⟩)∧W.heap.size≤Tx∧W.heap.size≤lo∧TbAt W' lo Tx vs (zeN P.T (vs.drop 17)) (s.size:Nat) (zcl s) (zcm s)
 | some r =>v=.pointer none∧∃ F,er=.iface 62 (.pointer (some ⟨F,0,none⟩))∧W.heap.size≤F∧Blk W' F (zb4 r) 80
theorem zju {w1 w2:World} {s:ByteArray} (hs:s.size≤262144) {wa:Option Addr} {wc:Nat} (hrow:RowW w1 wa (zcI s)) (hcap:(zcI s).length≤wc) (hb2:Below w1.heap.size w1 w2) :
  ∃ g,RdE ((w2.alloc (.cells (nils17++[Value.int .i64 (s.size:Nat),.int .i64 (zcl s),.int .i64 (zcm s)]).toArray 85)).alloc (.cells #[.slice wa (zcI s).length wc,.pointer (some ⟨w2.heap.size,0,none⟩),.pointer none] 87)) (w2.heap.size+1) w2.heap.size g (zcI s) 0 none (s.size:Nat) (zcl s) (zcm s)∧g≠w2.heap.size:=by
 have hlen:=zfF s hs
 generalize zcI s=ws at *
 have bT:=(Blk.new w2 (nils17++[Value.int .i64 (s.size:Nat),.int .i64 (zcl s),.int .i64 (zcm s)]).toArray 85).alloc (.cells #[.slice wa ws.length wc,.pointer (some ⟨w2.heap.size,0,none⟩),.pointer none] 87)
 have bR:=Blk.new (w2.alloc (.cells (nils17++[Value.int .i64 (s.size:Nat),.int .i64 (zcl s),.int .i64 (zcm s)]).toArray 85)) #[.slice wa ws.length wc,.pointer (some ⟨w2.heap.size,0,none⟩),.pointer none] 87
 rw [World.size_alloc] at bR
 have hE:EndAt ((w2.alloc (.cells (nils17++[Value.int .i64 (s.size:Nat),.int .i64 (zcl s),.int .i64 (zcm s)]).toArray 85)).alloc (.cells #[.slice wa ws.length wc,.pointer (some ⟨w2.heap.size,0,none⟩),.pointer none] 87)) w2.heap.size (s.size:Nat) (zcl s) (zcm s):=⟨bT.cell 17,bT.cell 18,bT.cell 19⟩
 rcases Nat.eq_zero_or_pos ws.length with h0 | h0
 ·obtain rfl:=List.length_eq_zero_iff.1 h0
  exact ⟨w2.heap.size+2,⟨⟨Nat.zero_le _,by omega,⟨wa,wc,.pointer none,bR,fun h =>absurd h (by simp),Nat.zero_le _,rfl⟩,fun j x hx =>by simp at hx,by omega⟩,hE,by omega⟩,by omega⟩
 ·obtain ⟨g,ha,hg,hcs⟩:=hrow h0
  have hsz:=hb2.size
  refine ⟨g,⟨⟨Nat.zero_le _,by omega,⟨wa,wc,.pointer none,bR,fun _ =>ha,by omega,rfl⟩,fun j x hx i u hu =>?_,by omega⟩,hE,by omega⟩,by omega⟩
  have c1:=hcs j x hx i u hu
  rw [Nat.mul_comm] at c1
  have c2:=(hb2.cell (p:=⟨g,8*j+i,none⟩) hg).trans c1
  exact (World.grownBy_alloc _ _ none).cell (a:=⟨g,8*j+i,none⟩) ((World.grownBy_alloc _ _ none).cell (a:=⟨g,8*j+i,none⟩) c2 (by simp)) (by simp)
set_option maxRecDepth 100000 in
set_option maxHeartbeats 4000000 in
theorem zjs (s:ByteArray) (hs:s.size≤262144) (hok:(zan s).ok=true) (m:Int) (W:World) (hm:W.cell? ⟨7,0,none⟩=some (.int .i64 m)) (hgm:7 < W.heap.size) :
  Calls Tryz.prog 10 #[.string s] W fun e w' => ∃ v er,e=.returned (.tuple #[v,er])∧Below W.heap.size W w'∧zfS W w' s (zbP s) v er:=by
 have HS:=kz (zjX s hs)
 have HW:=kz (words_yes s hs hok m)
 have HWH:=kz (zfG s (by omega) s.size (Nat.le_refl _))
 clear hok
 have HP:Hz (zbP s=zfr (zcI s) (s.size:Nat) (zcl s) (zcm s)):=kz rfl
 generalize zbP s=P at *
 have hmx:Tryz.prog.follows .mixedOrders=true:=by kernel_rfl
 go_enter Tryz.func10,Tryz.ntmps10
 go_wp2_with fail
 refine (oz HW _ hm hgm).mono ?_
 rintro e w1 ⟨v,rfl,hown,hb1⟩
 rw [← encW_ws] at hown
 obtain ⟨wa,wc,rfl,hrow,hwl,hcap⟩:=own_rowW hown
 have HROW:=kz hrow
 have HB1:=kz hb1
 have HCAP:=kz hcap
 rw [← hwl]
 have HWL:=kz hwl
 clear hrow hb1 hcap hown hwl
 go_wp2_with fail
 refine (oz HWH _).mono ?_
 rintro e w2 ⟨rfl,hb2⟩
 have HB2:=kz hb2
 clear hb2
 go_wp2_with fail
 have HB12:Hz (Below w1.heap.size w1 w2):=kz (((Below.refl w1.heap.size w1).alloc (Nat.le_refl _) _).trans ((oz HB2).mono (by simp)))
 obtain ⟨g,hrd,hgT⟩:=zju hs (wa:=wa) (wc:=wc) (oz HROW) (oz HCAP) (oz HB12)
 have hwe:(zcI s).length=(zan s).ws.length:=by rw [oz HWL];rfl
 rw [hwe] at hrd
 have hbT:=(Blk.new w2 (nils17++[Value.int .i64 (s.size:Nat),.int .i64 (zcl s),.int .i64 (zcm s)]).toArray 85).alloc (.cells #[.slice wa (zan s).ws.length wc,.pointer (some ⟨w2.heap.size,0,none⟩),.pointer none] 87)
 have HR:=kz (rules_any (w2.heap.size+1) w2.heap.size g (zcI s) (s.size:Nat) (zcl s) (zcm s) (oz HS).1 (oz HS).2 _ hrd hbT hgT)
 have hl1:=(oz HB1).size
 have hl2:=(oz HB12).size
 have HBW:Hz (Below W.heap.size W ((w2.alloc (.cells (nils17++[Value.int .i64 (s.size:Nat),.int .i64 (zcl s),.int .i64 (zcm s)]).toArray 85)).alloc (.cells #[.slice wa (zan s).ws.length wc,.pointer (some ⟨w2.heap.size,0,none⟩),.pointer none] 87))):=kz ((((oz HB1).trans ((oz HB12).mono hl1)).alloc (by omega) _).alloc (by simp;omega) _)
 have HSZ:Hz (((w2.alloc (.cells (nils17++[Value.int .i64 (s.size:Nat),.int .i64 (zcl s),.int .i64 (zcm s)]).toArray 85)).alloc (.cells #[.slice wa (zan s).ws.length wc,.pointer (some ⟨w2.heap.size,0,none⟩),.pointer none] 87)).heap.size=w2.heap.size+2):=kz (by simp)
 rw [← oz HP] at HR
 clear hrd hbT hwe
 refine (show Calls Tryz.prog 25 #[.pointer (some ⟨w2.heap.size+1,0,none⟩)] ((w2.alloc (.cells (nils17++[Value.int .i64 (s.size:Nat),.int .i64 (zcl s),.int .i64 (zcm s)]).toArray 85)).alloc (.cells #[.slice wa (zan s).ws.length wc,.pointer (some ⟨w2.heap.size,0,none⟩),.pointer none] 87)) _ from oz HR).mono ?_
 rintro e w4 ⟨⟨r,rfl⟩,lo,W0,hlo,hg0,hlo2,vs,hru⟩
 generalize (w2.alloc (.cells (nils17++[Value.int .i64 (s.size:Nat),.int .i64 (zcl s),.int .i64 (zcm s)]).toArray 85)).alloc (.cells #[.slice wa (zan s).ws.length wc,.pointer (some ⟨w2.heap.size,0,none⟩),.pointer none] 87)=W3 at *
 have hs3:=oz HSZ
 have HBF:Hz (Below W.heap.size W w4):=kz ((oz HBW).trans ⟨hru.fr.os.trans hg0.os,hru.fr.tape.trans hg0.tape,hru.fr.output.trans hg0.output,Nat.le_trans hg0.size hru.fr.size,fun i hi =>(hru.fr.block i (by have:=hg0.size;omega) (by omega) (by omega)).trans (hg0.block i (by omega) (by simp))⟩)
 obtain ⟨ra,rc,rv,hrb,_,_,hv⟩:=hru.rd.rd.blk
 have c1:=hrb.cell 1
 have c2:=hrb.cell 2
 have HTB:=kz hru.tb
 have HLO:=kz (show W.heap.size≤lo by omega)
 clear hru hrb HR HW HWH hlo hlo2 hg0 HSZ hs3 HB1 HB2 HB12 HBW HCAP HROW HS HWL
 obtain ⟨Pk,Pb,PT⟩:=P
 dsimp only at HTB hv
 cases Pb with
 | none =>
  obtain rfl:rv=.pointer none:=hv
  go_wp2_with fail
  exact bodyPost_ret (v := .tuple #[.pointer (some ⟨w2.heap.size,0,none⟩),.nilIface]) (by simp [results,Tryz.results10,go_sem]) rfl ⟨_,_,rfl,oz HBF,rfl,w2.heap.size,lo,vs,rfl,by omega,oz HLO,oz HTB⟩
 | some z =>
  obtain ⟨F,rfl,hRF,hF⟩:=hv
  have HF:=kz (And.intro hRF hF)
  clear hRF hF
  go_wp2_with fail
  go_region
  all_goals
   go_wp2_with fail
   exact bodyPost_ret (v:=Value.tuple #[Value.pointer none,Value.iface 62 (Value.pointer (some (⟨F,0,none⟩:Addr)))]) (by simp [results,Tryz.results10,go_sem]) rfl ⟨_,_,rfl,(oz HBF).trans ⟨rfl,rfl,rfl,Nat.le_refl _,fun _ _ =>rfl⟩,rfl,F,rfl,by have:=(oz HF).1;omega,(oz HF).2⟩
def zaD (s:ByteArray):Ps:=if (zan s).ok=true then zbP s else ⟨0,some ⟨((zan s).b:Nat),((whL s (zan s).b).1:Nat),((whL s (zan s).b).2:Nat),if (zan s).b < s.size then 20 else 21⟩,TV0⟩
theorem zjY (s:ByteArray):(zan s).b≤s.size:=by
 have:∀ (f b:Nat) (x:Nat × Nat) (ws:List Wd),b≤s.size→(cutGo s f b x ws).b≤s.size:=by
  intro f
  induction f with
  | zero =>intro b x ws h;exact h
  | succ f ih =>
   intro b x ws h
   have hg:=ziM s b h
   unfold cutGo
   split
   ·exact hg.2
   ·split
    ·exact hg.2
    ·rename_i h2
     have hw:=zb0 (rst s (gB s b)) (by omega)
     rw [zah] at hw
     split
     ·show gB s b+_≤_;omega
     ·exact ih _ _ _ (by omega)
 exact this _ _ _ _ (Nat.zero_le _)
set_option maxRecDepth 100000 in
set_option maxHeartbeats 4000000 in
theorem parse_no (s:ByteArray) (hs:s.size≤262144) (hok:(zan s).ok=false) (m:Int) (W:World) (hm:W.cell? ⟨7,0,none⟩=some (.int .i64 m)) (hgm:7 < W.heap.size) :
  Calls Tryz.prog 10 #[.string s] W fun e w' => ∃ v er,e=.returned (.tuple #[v,er])∧Below W.heap.size W w'∧zfS W w' s (zaD s) v er:=by
 have HW:=kz (words_no s hs hok (zjY s) m W hm hgm)
 have HP:Hz (zaD s=⟨0,some ⟨((zan s).b:Nat),((whL s (zan s).b).1:Nat),((whL s (zan s).b).2:Nat),if (zan s).b < s.size then 20 else 21⟩,TV0⟩):=kz (if_neg (by rw [hok];decide))
 clear hok
 generalize zaD s=P at *
 have hmx:Tryz.prog.follows .mixedOrders=true:=by kernel_rfl
 obtain ⟨y,hy,hy0⟩:∃ y:Int,y=(if (zan s).b < s.size then 20 else 21)∧(y == 0)=false:=⟨_,rfl,by split <;> rfl⟩
 rw [← hy] at HW HP
 clear hy
 go_enter Tryz.func10,Tryz.ntmps10
 go_wp2_with fail
 refine (oz HW).mono ?_
 rintro e w1 ⟨rfl,hb1⟩
 have HB1:=kz hb1
 clear hb1 HW
 unfold atA
 generalize (zan s).b=wb at *
 generalize whL s wb=wl at *
 obtain ⟨l1,c1⟩:=wl
 dsimp only at HP
 dsimp only
 go_wp2_with fail
 go_region
 all_goals
  go_wp2_with fail
  have hl1:=(oz HB1).size
  have hBF:Below W.heap.size W (((w1.alloc (.cells #[.int .i64 wb,.int .i64 l1,.int .i64 c1] 53)).alloc (.cells #[.int .i64 wb,.int .i64 l1,.int .i64 c1,.int .i64 y] 80)).drew):=(((oz HB1).alloc hl1 _).alloc (by simp;omega) _).trans ⟨rfl,rfl,rfl,Nat.le_refl _,fun _ _ =>rfl⟩
  have hF:=Blk.new (w1.alloc (.cells #[.int .i64 wb,.int .i64 l1,.int .i64 c1] 53)) (zb4 ⟨(wb:Nat),(l1:Nat),(c1:Nat),y⟩) 80
  rw [World.size_alloc] at hF
  exact bodyPost_ret (v:=Value.tuple #[Value.pointer none,Value.iface 62 (Value.pointer (some (⟨w1.heap.size+1,0,none⟩:Addr)))]) (by simp [results,Tryz.results10,go_sem]) rfl ⟨_,_,rfl,hBF,by rw [oz HP];exact ⟨rfl,w1.heap.size+1,rfl,by omega,hF⟩⟩
theorem parse_any (s:ByteArray) (hs:s.size≤262144) (m:Int) (W:World) (hm:W.cell? ⟨7,0,none⟩=some (.int .i64 m)) (hgm:7 < W.heap.size) :
  Calls Tryz.prog 10 #[.string s] W fun e w' => ∃ v er,e=.returned (.tuple #[v,er])∧Below W.heap.size W w'∧zfS W w' s (zaD s) v er:=by
 cases hok:(zan s).ok with
 | false =>exact parse_no s hs hok m W hm hgm
 | true =>
  have:=zjs s hs hok m W hm hgm
  rw [show zaD s=zbP s from if_pos hok]
  exact this
def zcx (s:ByteArray):Bool:=decide (0 < s.size∧zao s=s.size)
theorem legal_any (s:ByteArray) (hs:s.size≤maxLen) (w:World):Calls Tryz.prog 72 #[.string s] w fun e w' =>e=.returned (.bool (zcx s))∧w'=w:=by
 by_cases h0:0 < s.size
 ·have hne:=zdQ s h0
  have hne':(s.toList != [])=true:=by simpa using hne
  have hv:zcx s=((zao s:Int) == (s.size:Int)):=by
   unfold zcx
   rw [Bool.eq_iff_iff]
   simp [h0]
   omega
  have HV:=kz hv
  have HN:=kz (ziy s hs)
  have hm:s.size≤9223372036854775807:=by unfold maxLen at hs;exact hs
  clear hv
  go_enter Tryz.func72,Tryz.ntmps72
  go_wp2_with fail
  refine (oz HN _).mono ?_
  rintro e w1 ⟨rfl,rfl⟩
  go_wp2_with fail
  go_ret
  refine ⟨?_,rfl⟩
  show Ending.returned (.bool (!s.toList.isEmpty && ((zao s:Int) == (s.size:Int))))=_
  rw [oz HV,show s.toList.isEmpty=false by simpa using hne]
  rfl
 ·obtain rfl:=za4 s (by omega)
  have hv:zcx ByteArray.empty=false:=by unfold zcx;simp
  rw [hv]
  go_enter Tryz.func72,Tryz.ntmps72
  go_wp2_with fail
  go_ret
  exact ⟨rfl,rfl⟩
end Go.Proofs.YtmdgejgokoadlaaGreatDoor
