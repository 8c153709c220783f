/- Texts of this claim, one behind the other. -/
import Derived.Test.YtmemedpoaocdkaaGreatM31
import Derived.Test.YtmemedpoaocdkaaGreatM2
import Derived.OwnWalkIn
import Derived.Test.YtmemedpoaocdkaaGreatM24
import Derived.Test.YtmemedpoaocdkaaGreatM30
/- The function that strip.Seen hands back, as an iterator: the spots that are seen, with their places. -/
namespace Go.Proofs.YtmemedpoaocdkaaGreat
open Go.RowKit Go.Shelf Go.Maps
attribute [local go_sem] Oper.semAt_some
set_option linter.unusedVariables false
def spN (s:ByteArray):List (Nat × Nat):=(zai s).zipIdx
attribute [local go_sem] Oper.semAt_some
set_option linter.unusedVariables false
attribute [local go_sem] Oper.semAt_some
set_option linter.unusedVariables false
attribute [local go_sem] Oper.semAt_some
set_option linter.unusedVariables false
attribute [local go_sem] Oper.semAt_some
set_option linter.unusedVariables false
def zbW (o:Option (Nat × Nat)):Value:=match o with
 | some x =>.tuple #[.agg #[.int .i64 x.1,.int .i64 x.2],.bool true]
 | none =>.tuple #[.agg #[.int .i64 0,.int .i64 0],.bool false]
attribute [local go_sem] Oper.semAt_some
set_option linter.unusedVariables false
attribute [local go_sem] Oper.semAt_some
set_option linter.unusedVariables false
end Go.Proofs.YtmemedpoaocdkaaGreat
namespace Go.Proofs.YtmemedpoaocdkaaGreat
open Go.RowKit Go.Shelf Go.Maps
set_option linter.unusedVariables false
end Go.Proofs.YtmemedpoaocdkaaGreat
namespace Go.Proofs.YtmemedpoaocdkaaGreat
open Go.RowKit Go.Shelf Go.Maps
attribute [local go_sem] Oper.semAt_some
set_option linter.unusedVariables false
end Go.Proofs.YtmemedpoaocdkaaGreat
namespace Go.Proofs.YtmemedpoaocdkaaGreat
open Go.RowKit Go.Shelf Go.Maps
set_option linter.unusedVariables false
theorem zcm (t:ByteArray) (p:Nat) (h:p≤t.size):t.extract 0 p++t.extract p t.size=t:=by
 rw [ByteArray.extract_append_extract,Nat.min_eq_left (Nat.zero_le _),Nat.max_eq_right h]
 exact ByteArray.extract_zero_size
theorem zag {W:World} {lo E sz n:Nat} {v:Value} {xs:List Value} (h:W.ownsRow lo E sz v n xs):∃ a c,v=.slice a n c:=by
 rcases h.2 with ⟨rfl,h0⟩ | ⟨g,cap,cur,rfl,_⟩
 ·exact ⟨none,0,by rw [h0]⟩
 ·exact ⟨_,_,rfl⟩
def spX (s:ByteArray) (i:Nat):Int × Bool:=((rn s i:Int),zeC s i)
def spF (p:Nat × Nat):Int × Bool:=((p.1:Int),decide (p.1=65533∧p.2=1))
theorem zcq (s:ByteArray) (i:Nat):spX s i=spF (Utf8.decode s i):=rfl
def spL (s:ByteArray):List (Int × Bool):=(zai s).map (spX s)
theorem zde (s:ByteArray):(spL s).length=(zai s).length:=by unfold spL;simp
theorem zfC (s t:ByteArray) (hb:bdB (s++t) s.size=true):spL (s++t)=spL s++spL t:=by
 obtain ⟨h1,h2⟩:=zed s t hb
 unfold spL
 rw [h1,List.map_append,List.map_map]
 congr 1
 ·refine List.map_congr_left (fun p hp =>?_)
  rw [zcq,zcq,h2 p hp]
 ·refine List.map_congr_left (fun p hp =>?_)
  show spX (s++t) (s.size+p)=spX t p
  rw [zcq,zcq,zct]
theorem ziv (t:ByteArray) (p:Nat) (h:p≤t.size) (hb:bdB t p=true):spL t=spL (t.extract 0 p)++spL (t.extract p t.size):=by
 have hz:(t.extract 0 p).size=p:=by rw [ByteArray.size_extract];omega
 have:=zfC (t.extract 0 p) (t.extract p t.size) (by rw [zcm t p h,hz];exact hb)
 rwa [zcm t p h] at this
def zba (T:TV) (x:Int × Bool):Bool := !x.2 && (zan T.co x.1 || decide (0 < zbk T x.1))
def bdX (T:TV) (x:Int × Bool):List Nat:=if x.2 || zba T x then [] else zdn T x.1
def zdR (T:TV) (a:List Nat × Bool) (x:Int × Bool):List Nat × Bool:=if zba T x then a else (a.1.filter (fun n =>(bdX T x).contains n),true)
def zaH (T:TV) (l:List (Int × Bool)):List Nat × Bool:=l.foldl (zdR T) (List.range T.sc.length,false)
theorem zcI (T:TV) (l:List (Int × Bool)) (x:Int × Bool):zaH T (l++[x])=zdR T (zaH T l) x:=by unfold zaH;rw [List.foldl_append];rfl
def zbE (a:List Nat × Bool):Bool:=a.2 && a.1.isEmpty
def zif (T:TV) (n:Nat) (x:Int × Bool):Bool:=zba T x || (bdX T x).contains n
theorem zpT (T:TV):∀ (l:List (Int × Bool)) (a:List Nat × Bool),l.foldl (zdR T) a=(a.1.filter (fun n =>l.all (zif T n)),a.2 || l.any (fun x => !zba T x))
 | [],a =>by
  have:a.1.filter (fun _ =>true)=a.1:=List.filter_eq_self.2 (fun _ _ =>rfl)
  simp [this]
 | x::l,a =>by
  rw [List.foldl_cons,zpT T l]
  unfold zdR
  cases h:zba T x with
  | true =>
   rw [if_pos rfl]
   simp [zif,h]
  | false =>
   rw [if_neg (by decide)]
   simp [zif,h,List.filter_filter,Bool.and_comm]
theorem zcp (T:TV) (l:List (Int × Bool)):zaH T l=((List.range T.sc.length).filter (fun n =>l.all (zif T n)),l.any (fun x => !zba T x)):=by unfold zaH;rw [zpT];simp
def zb2 (T:TV) (s:ByteArray):List Nat:=(zaH T (spL s)).1
theorem zc1 {T:TV} {l:List (Int × Bool)} {n:Nat}:n ∈ (zaH T l).1 ↔ n < T.sc.length∧∀ x ∈ l,zif T n x=true:=by
 rw [zcp]
 simp [List.mem_filter,List.all_eq_true]
theorem zgc {T:TV} {l m:List (Int × Bool)} (h:∀ x ∈ m,x ∈ l) {n:Nat} (hn:n ∈ (zaH T l).1):n ∈ (zaH T m).1:=by
 rw [zc1] at hn ⊢
 exact ⟨hn.1,fun x hx =>hn.2 x (h x hx)⟩
theorem zdM {T:TV} {l m:List (Int × Bool)} (h:∀ x ∈ m,x ∈ l) (hm:zbE (zaH T m)=true):zbE (zaH T l)=true:=by
 unfold zbE at hm ⊢
 rw [Bool.and_eq_true,List.isEmpty_iff] at hm ⊢
 refine ⟨?_, ?_⟩
 ·have h1:=hm.1
  rw [zcp] at h1 ⊢
  dsimp only at h1 ⊢
  rw [List.any_eq_true] at h1 ⊢
  obtain ⟨x,hx,hf⟩:=h1
  exact ⟨x,h x hx,hf⟩
 ·rw [List.eq_nil_iff_forall_not_mem]
  intro n hn
  have:=zgc h hn
  rw [hm.2] at this
  cases this
def zbj (T:TV) (s:ByteArray):Option (Nat × Nat):=(spN s).find? fun x =>zbE (zaH T ((spL s).take (x.2+1)))
theorem zgd {T:TV} {s:ByteArray} (h:zbj T s=none):zbE (zaH T (spL s))=false:=by
 unfold zbj at h
 rw [List.find?_eq_none] at h
 by_cases h0:(zai s).length=0
 ·have:spL s=[]:=List.length_eq_zero_iff.1 (by rw [zde];exact h0)
  rw [this]
  rfl
 ·have hm:=h ((zai s)[(zai s).length - 1]'(by omega),(zai s).length - 1) (by
   unfold spN
   rw [List.mem_iff_getElem?]
   exact ⟨(zai s).length - 1,by rw [List.getElem?_zipIdx,List.getElem?_eq_getElem (by omega)];simp⟩)
  dsimp only at hm
  rw [List.take_of_length_le (by rw [zde];omega)] at hm
  simpa using hm
theorem ze8 {T:TV} {s:ByteArray} {x k:Nat} (h1:(zai s)[k]?=some x) (h2:zbE (zaH T ((spL s).take (k+1)))=true) (h3:∀ j,j < k→zbE (zaH T ((spL s).take (j+1)))=false):zbj T s=some (x,k):=by
 unfold zbj
 rw [List.find?_eq_some_iff_getElem]
 obtain ⟨hk,hx⟩:=List.getElem?_eq_some_iff.1 h1
 refine ⟨h2,k,by unfold spN;simpa using hk,by simp [spN,hx],fun j hj =>?_⟩
 have hz2:(spN s)[j]'(by unfold spN;simp;omega)=((zai s)[j]'(by omega),j):=by simp [spN]
 rw [hz2,h3 j hj]
 rfl
theorem zec {T:TV} {s:ByteArray} (h:zbE (zaH T (spL s))=false):zbj T s=none:=by
 unfold zbj
 rw [List.find?_eq_none]
 intro x hx hm
 rw [zdM (fun y hy =>List.mem_of_mem_take hy) hm] at h
 cases h
theorem zkS (T:TV) (s:ByteArray):(zbj T s).isSome=zbE (zaH T (spL s)):=by
 cases h:zbE (zaH T (spL s)) with
 | false =>rw [zec h];rfl
 | true =>
  cases h2:zbj T s with
  | some x =>rfl
  | none =>rw [zgd h2] at h;cases h
theorem zmZ (s:ByteArray) (a b:Nat) (ha:a≤b) (hb:b≤s.size) (h1:bdB s b=true) (h2:bdB (s.extract 0 b) a=true):∀ x ∈ spL ((s.extract 0 b).extract a (s.extract 0 b).size),x ∈ spL s:=by
 intro x hx
 have hz:(s.extract 0 b).size=b:=by rw [ByteArray.size_extract];omega
 rw [ziv s b hb h1,ziv (s.extract 0 b) a (by omega) h2]
 exact List.mem_append_left _ (List.mem_append_right _ hx)
theorem BookAt.scs {w:World} {B:Nat} {T:TV} (h:BookAt w B T):∃ (a:Option Addr) (c:Nat) (bs:List Nat),w.cell? ⟨B,8,none⟩=some (.slice a T.sc.length c)∧bs.length=T.sc.length∧RowC w w.heap.size a (bs.map zke)∧∀ (j:Nat) (s:ByteArray × List (Int × Int)) (b:Nat),T.sc[j]?=some s→bs[j]?=some b→SetV w s.2 b:=by
 obtain ⟨lo,t0,t1,t2,t3,t4,t5,t6,t7,sv,bs,Bc,Bd,Ba,M5,n5,M6,n6,M7,n7,MF,nF,ML,nL,h⟩:=h
 have hk:=h.bx.cell 8
 rw [zjK] at hk
 obtain ⟨a,c,rfl⟩:∃ a c,sv=.slice a T.sc.length c:=by
  rcases h.row.2 with ⟨e,h0⟩ | ⟨g,cap,cur,e,_⟩
  ·refine ⟨none,0, ?_⟩
   have:T.sc.length=0:=h0
   rw [e,this]
  ·exact ⟨_,_,e⟩
 exact ⟨a,c,bs,hk,h.len,zaG h.row,h.sets⟩
def zbe (T:TV) (r:Int) (k:Nat):List Nat:=(List.range k).filter (fun j =>zan (T.sc.getD j sc0).2 r)
theorem zd0 (T:TV) (r:Int) (k:Nat):zbe T r (k+1)=zbe T r k++(if zan (T.sc.getD k sc0).2 r then [k] else []):=by
 unfold zbe
 rw [List.range_succ,List.filter_append]
 congr 1
 cases h:zan (T.sc.getD k sc0).2 r
 ·simp only [List.filter_cons,List.filter_nil,h]
 ·simp only [List.filter_cons,List.filter_nil,h]
theorem zfF (T:TV) (r:Int) (k:Nat):(zbe T r k).length≤k:=by
 have:=List.length_filter_le (fun j =>zan (T.sc.getD j sc0).2 r) (List.range k)
 rwa [List.length_range] at this
def zaP (n:Nat):Value := .int .i64 (n:Int)
theorem zb0:(Tryz.prog.info? 3).map (fun i =>(i.zero,i.size,i.bytes))=some (some (.int .i64 0),1,8):=by kernel_rfl
theorem zfQ:(Tryz.prog.info? 9).map (fun i =>(i.zero,i.size,i.bytes))=some (some (.string ByteArray.empty),1,16):=by kernel_rfl
set_option maxRecDepth 100000 in
set_option maxHeartbeats 4000000 in
theorem zcv {T:TV} (hO:zam T) (B:Nat) (r:Int) (W:World) (h:BookAt W B T):Calls Tryz.prog 100 #[.pointer (some ⟨B,0,none⟩),.int .i32 r] W fun e w' => ∃ v,e=.returned v∧w'.ownsRow W.heap.size 3 1 v (zdn T r).length ((zdn T r).map zaP)∧Below W.heap.size W w':=by
 obtain ⟨i0,hi,hz0,hz1,hz2⟩:=info_parts zb0
 obtain ⟨a,c,bs,k8,hbl,hrow,hsets⟩:=h.scs
 have hL:=hO.l0
 have HR:=kz (And.intro hrow (And.intro hbl hsets))
 have HO:=kz hO
 have H0:Hz (W.ownsRow W.heap.size 3 1 (.slice none 0 0) (zbe T r 0).length ((zbe T r 0).map zaP)∧Below W.heap.size W W):=kz ⟨World.ownsRow_nil _ _ _ _,Below.refl _ _⟩
 clear hrow hbl hsets h hO
 go_enter Tryz.func100,Tryz.ntmps100
 go_wp2_with fail
 go_loopw [5,6,7,13] (fun s5 _ _ s13 wr => ∃ (k:Nat) (v5:Value),k≤T.sc.length∧v5=s5∧s13=.int .i64 k∧Hz (wr.ownsRow W.heap.size 3 1 v5 (zbe T r k).length ((zbe T r k).map zaP)∧Below W.heap.size W wr)) (fun _ _ _ s13 _ =>T.sc.length - (intOf s13).toNat)
 case atStart =>exact ⟨0,_,Nat.zero_le _,rfl,rfl,H0⟩
 case round =>
  obtain ⟨k,v5,hk,e5,rfl,HS⟩:=hrel
  subst e5
  clear H0
  by_cases hkn:k < T.sc.length
  ·obtain ⟨s,hs⟩:∃ s,T.sc[k]?=some s:=⟨_,List.getElem?_eq_getElem hkn⟩
   obtain ⟨b,hbs⟩:∃ b,bs[k]?=some b:=⟨_,List.getElem?_eq_getElem (by have:=(oz HR).2.1;omega)⟩
   obtain ⟨g,q,rfl,hg,hc⟩:=(oz HR).1 (by rw [List.length_map,(oz HR).2.1];omega)
   have kc:wr.cell? ⟨g,q+k,none⟩=some (.pointer (some ⟨b,0,none⟩)):=((oz HS).2.cell (p:=⟨g,q+k,none⟩) hg).trans (hc k _ (by rw [List.getElem?_map,hbs];rfl))
   have hlen:s.2.length≤1000000:=by have:=(oz HO).s0 s (List.mem_of_getElem? hs);omega
   have HI:=kz (zdW hlen (((oz HR).2.2 k s b hs hbs).below (oz HS).2) r)
   have HK:Hz (zbe T r (k+1)=zbe T r k++(if zan s.2 r then [k] else [])):=kz (by rw [zd0,zcd sc0 hs])
   have hk1:(k:Int) < (T.sc.length:Int):=by omega
   have hk2:((k:Nat):Int).toNat=k:=by omega
   clear hs hbs hc hg hlen
   generalize zan s.2 r=bb at *
   go_wp2_with fail
   refine (oz HI).mono ?_
   rintro e w2 ⟨rfl,hb⟩
   have HS2:=kz (And.intro (zal (oz HS).1 hb) ((oz HS).2.trans (hb.mono (oz HS).2.size)))
   clear hb HI HS kc
   cases bb with
   | false =>
    have HS3:Hz (w2.ownsRow W.heap.size 3 1 v5 (zbe T r (k+1)).length ((zbe T r (k+1)).map zaP)∧Below W.heap.size W w2):=kz (by rw [oz HK,if_neg (by decide),List.append_nil];exact oz HS2)
    go_wp2_with fail
    exact ⟨⟨k+1,_,by omega,rfl,by go_num,HS3⟩,by simp [intOf];omega⟩
   | true =>
    have hsl:=zfF T r k
    go_wp2_with (at_builtin;refine zbP rfl _ _ 36 3 rfl i0 _ 8 Tryz.underlying36 hi hz0 hz1 hz2 rfl (by decide) W.heap.size v5 ((zbe T r k).map zaP) (zaP k) rfl (by rw [List.length_map];omega) w2 rfl rfl (by rw [List.length_map];exact (oz HS2).1) (oz HS2).2.size _ rfl rfl ?_)
    intro v' w3 ho hb
    have HS3:Hz (w3.ownsRow W.heap.size 3 1 v' (zbe T r (k+1)).length ((zbe T r (k+1)).map zaP)∧Below W.heap.size W w3):=kz (by
     rw [oz HK,if_pos trivial,List.map_append,List.length_append,List.map_singleton]
     exact ⟨ho,(oz HS2).2.trans hb⟩)
    clear ho hb
    go_wp2_with fail
    exact ⟨⟨k+1,_,by omega,rfl,by go_num,HS3⟩,by simp [intOf];omega⟩
  ·have hk1:¬ (k:Int) < (T.sc.length:Int):=by omega
   obtain rfl:k=T.sc.length:=by omega
   go_wp2_with fail
   go_ret
   exact ⟨_,rfl,(oz HS).1,(oz HS).2⟩
def zaT (T:TV) (k:Nat):List Value:=(T.sc.take k).map (fun x =>Value.string x.1)
set_option maxRecDepth 100000 in
set_option maxHeartbeats 4000000 in
theorem zcF {T:TV} (hO:zam T) (B:Nat) (W:World) (h:BookAt W B T):Calls Tryz.prog 32 #[.pointer (some ⟨B,0,none⟩)] W fun e w' => ∃ v,e=.returned v∧w'.ownsRow W.heap.size 9 1 v T.sc.length (T.sc.map (fun x =>Value.string x.1))∧Below W.heap.size W w':=by
 obtain ⟨i0,hi,hz0,hz1,hz2⟩:=info_parts zfQ
 obtain ⟨a0,a1,a2,a3,a4,a5,a6,a7,c0,c1,c2,c3,c4,c5,c6,c7,us,tb⟩:=h.tabs
 have k0:=tb.k0
 have hL:=hO.l0
 have HT:=kz tb
 have H0:Hz (W.ownsRow W.heap.size 9 1 (.slice none 0 0) (zaT T 0).length (zaT T 0)∧Below W.heap.size W W):=kz ⟨World.ownsRow_nil _ _ _ _,Below.refl _ _⟩
 clear tb h hO
 go_enter Tryz.func32,Tryz.ntmps32
 go_wp2_with fail
 go_loopw [3,5,12] (fun s3 _ s12 wr => ∃ (k:Nat) (v5:Value),k≤T.sc.length∧v5=s3∧s12=.int .i64 k∧Hz (wr.ownsRow W.heap.size 9 1 v5 (zaT T k).length (zaT T k)∧Below W.heap.size W wr)) (fun _ _ s12 _ =>T.sc.length - (intOf s12).toNat)
 case atStart =>exact ⟨0,_,Nat.zero_le _,rfl,rfl,H0⟩
 case round =>
  obtain ⟨k,v5,hk,e5,rfl,HS⟩:=hrel
  subst e5
  clear H0
  by_cases hkn:k < T.sc.length
  ·obtain ⟨s,hs⟩:∃ s,T.sc[k]?=some s:=⟨_,List.getElem?_eq_getElem hkn⟩
   obtain ⟨u,hu⟩:∃ u,us[k]?=some u:=⟨_,List.getElem?_eq_getElem (by have:=(oz HT).ti.lu;omega)⟩
   obtain ⟨p,d,rfl,_⟩:=(oz HT).ti.rs k s u hs hu
   have n0:=zfe T.sc us (oz HT).ti.lu k s hs
   have n1:(zbB T.sc us)[k*2+1]?=some (.slice p s.2.length d):=by rw [show k*2+1=2*k+1 by omega,zdG _ _ (oz HT).ti.lu];exact hu
   obtain ⟨g,q,rfl,hg,hc⟩:=(oz HT).ti.r0 (by have:=(List.getElem?_eq_some_iff.1 n0).1;omega)
   have kc0:wr.cell? ⟨g,q+k*2,none⟩=some (.string s.1):=((oz HS).2.cell (p:=⟨g,q+k*2,none⟩) hg).trans (hc _ _ n0)
   have kc1:wr.cell? ⟨g,q+k*2+1,none⟩=some (.slice p s.2.length d):=((oz HS).2.cell (p:=⟨g,q+k*2+1,none⟩) hg).trans (hc _ _ n1)
   have HK:Hz (zaT T (k+1)=zaT T k++[.string s.1]):=kz (by unfold zaT;rw [List.take_add_one,hs];simp)
   have hk1:(k:Int) < (T.sc.length:Int):=by omega
   have hk2:((k:Nat):Int).toNat=k:=by omega
   have hkl:(zaT T k).length≤900000:=by unfold zaT;rw [List.length_map,List.length_take];omega
   obtain ⟨s1,s2⟩:=s
   dsimp only at kc0 kc1 HK
   have hn:=al1 wr (.cells #[.string s1,.slice p s2.length d] 109)
   have HS2:=kz (And.intro (zal (oz HS).1 hn) ((oz HS).2.trans (hn.mono (oz HS).2.size)))
   clear hs hu hc n0 n1 hg hn HS
   go_wp2_with (at_builtin;refine zbP rfl _ _ 66 9 rfl i0 _ 16 Tryz.underlying66 hi hz0 hz1 hz2 rfl (by decide) W.heap.size v5 (zaT T k) (.string s1) rfl hkl (wr.alloc (.cells #[.string s1,.slice p s2.length d] 109)) rfl rfl (oz HS2).1 (oz HS2).2.size (wr.heap.size+1) (by simp) rfl ?_)
   intro v' w3 ho hb
   have HS3:Hz (w3.ownsRow W.heap.size 9 1 v' (zaT T (k+1)).length (zaT T (k+1))∧Below W.heap.size W w3):=kz (by
    rw [oz HK,List.length_append]
    exact ⟨ho,(oz HS2).2.trans hb⟩)
   clear ho hb
   go_wp2_with fail
   exact ⟨⟨k+1,_,by omega,rfl,by go_num,HS3⟩,by simp [intOf];omega⟩
  ·have hk1:¬ (k:Int) < (T.sc.length:Int):=by omega
   obtain rfl:k=T.sc.length:=by omega
   go_wp2_with fail
   go_ret
   refine ⟨_,rfl, ?_,(oz HS).2⟩
   have:=(oz HS).1
   unfold zaT at this
   rw [List.take_of_length_le (Nat.le_refl _),List.length_map] at this
   exact this
theorem zcP (a b:Int) (w:World):Calls Tryz.prog 168 #[.int .i64 a,.int .i64 b] w fun e w' =>e=.returned (.bool (decide (a < b)))∧w'=w:=by
 have ha:(a != a)=false:=by simp
 go_enter Tryz.func168,Tryz.ntmps168
 go_wp2_with go_in
 go_ret
 exact ⟨rfl,rfl⟩
def zcV (l:List Nat):Prop := ∀ i j x y:Nat,i < j→l[i]?=some x→l[j]?=some y→x < y
def zn2 (W:World) (g o:Nat) (l:List Nat):Prop := ∀ k x:Nat,l[k]?=some x→W.cell? ⟨g,o+k,none⟩=some (.int .i64 x)
set_option maxRecDepth 100000 in
set_option maxHeartbeats 4000000 in
theorem zdZ (g o cap:Nat) (l:List Nat) (hl:l.length≤1048576) (hr:zcV l) (n:Nat) (hn:n≤1048576) (W:World) (hi:zn2 W g o l) :
  Calls Tryz.prog 101 #[.slice (some ⟨g,o,none⟩) l.length cap,.int .i64 n] W fun e w' => ∃ p:Nat,e=.returned (.tuple #[.int .i64 p,.bool (decide (l[p]?=some n))])∧p≤l.length∧(∀ j x,j < p→l[j]?=some x→x < n)∧(∀ j x,p≤j→l[j]?=some x→n≤x)∧Below W.heap.size W w':=by
 have HI:=kz hi
 have HRS:=kz hr
 clear hi hr
 go_enter Tryz.func101,Tryz.ntmps101
 go_wp2
 go_loop [7,8] (fun i j => ∃ a b:Nat,a≤b∧b≤l.length∧i=.int .i64 a∧j=.int .i64 b∧Hz (∀ j x,j < a→l[j]?=some x→x < n)∧Hz (∀ j x,b≤j→l[j]?=some x→n≤x)) (fun i j =>(intOf j).toNat - (intOf i).toNat)
 case atStart =>exact ⟨0,l.length,by omega,Nat.le_refl _,rfl,rfl,kz (fun j x hj =>by omega),kz (fun j x hj hx =>by have:=(List.getElem?_eq_some_iff.1 hx).1;omega)⟩
 case round =>
  obtain ⟨a,b,hab,hb,rfl,rfl,H1,H2⟩:=hrel
  by_cases hlt:a < b
  ·have h1:(a:Int) < (b:Int):=by omega
   obtain ⟨x,hx⟩:∃ x,l[(a+b) / 2]?=some x:=⟨_,List.getElem?_eq_getElem (by omega)⟩
   have ck:=oz HI _ _ hx
   have HX:=kz hx
   clear hx
   by_cases hxn:x < n
   ·have hd:decide ((x:Int) < (n:Int))=true:=decide_eq_true (by omega)
    go_wp2_with (go_at_call 168;refine (zcP _ _ _).mono ?_;rintro e w' ⟨rfl,rfl⟩)
    go_round
    case rel =>
     refine ⟨(a+b) / 2+1,b,by omega,hb, ?_,rfl,kz (fun j y hj hy =>?_),H2⟩
     ·congr 1
     ·by_cases e:j=(a+b) / 2
      ·subst e;rw [oz HX] at hy;cases hy;exact hxn
      ·have:=oz HRS j ((a+b) / 2) y x (by omega) hy (oz HX);omega
    case measure =>simp [intOf];omega
   ·have hd:decide ((x:Int) < (n:Int))=false:=decide_eq_false (by omega)
    go_wp2_with (go_at_call 168;refine (zcP _ _ _).mono ?_;rintro e w' ⟨rfl,rfl⟩)
    go_round
    case rel =>
     refine ⟨a,(a+b) / 2,by omega,by omega,rfl, ?_,H1,kz (fun j y hj hy =>?_)⟩
     ·congr 1
     ·by_cases e:j=(a+b) / 2
      ·subst e;rw [oz HX] at hy;cases hy;omega
      ·have:=oz HRS ((a+b) / 2) j x y (by omega) (oz HX) hy;omega
    case measure =>simp [intOf];omega
  ·have h1:¬ (a:Int) < (b:Int):=by omega
   obtain rfl:a=b:=by omega
   by_cases hal:a < l.length
   ·obtain ⟨x,hx⟩:∃ x,l[a]?=some x:=⟨_,List.getElem?_eq_getElem hal⟩
    have ck:=oz HI _ _ hx
    have h2:(a:Int) < (l.length:Int):=by omega
    have h3:((a:Nat):Int).toNat=a:=by omega
    have HX:=kz hx
    clear hx
    by_cases hxn:x=n
    ·subst hxn
     have hxe:((x:Int) == (x:Int))=true:=by simp
     have HD:=kz (show decide (l[a]?=some x)=true from decide_eq_true (oz HX))
     go_wp2
     go_ret2
     exact ⟨a,by rw [oz HD];rfl,hb,oz H1,oz H2,Below.refl _ _⟩
    ·have hxe:((x:Int) == (n:Int))=false:=beq_eq_false_iff_ne.2 (by omega)
     have hxx:((x:Int) != (x:Int))=false:=by simp
     have HD:=kz (show decide (l[a]?=some n)=false from decide_eq_false (by rw [oz HX];simp;omega))
     go_wp2_with go_in
     go_ret2
     exact ⟨a,by rw [oz HD];rfl,hb,oz H1,oz H2,Below.refl _ _⟩
   ·have h2:¬ (a:Int) < (l.length:Int):=by omega
    have HD:=kz (show decide (l[a]?=some n)=false from decide_eq_false (by rw [List.getElem?_eq_none (by omega)];simp))
    go_wp2
    go_ret2
    exact ⟨a,by rw [oz HD];rfl,hb,oz H1,oz H2,Below.refl _ _⟩
theorem zdl (a:Option Addr) (c:Nat) (n:Int) (W:World):Calls Tryz.prog 101 #[.slice a 0 c,.int .i64 n] W fun e w' =>e=.returned (.tuple #[.int .i64 0,.bool false])∧Below W.heap.size W w':=by
 go_enter Tryz.func101,Tryz.ntmps101
 go_wp2
 go_loop [7,8] (fun i j =>i=.int .i64 0∧j=.int .i64 0) (fun i j =>0)
 case atStart =>exact ⟨rfl,rfl⟩
 case round =>
  obtain ⟨rfl,rfl⟩:=hrel
  go_wp2
  go_ret2
  exact ⟨rfl,Below.refl _ _⟩
theorem zdm (a:Option Addr) (c:Nat) (l:List Nat) (hl:l.length≤1048576) (hr:zcV l) (n:Nat) (hn:n≤1048576) (W:World) (hi:RowC W W.heap.size a (l.map zaP)) :
  Calls Tryz.prog 101 #[.slice a l.length c,.int .i64 n] W fun e w' => ∃ p:Int,e=.returned (.tuple #[.int .i64 p,.bool (l.contains n)])∧Below W.heap.size W w':=by
 by_cases h0:l.length=0
 ·obtain rfl:l=[]:=List.length_eq_zero_iff.1 h0
  refine (zdl a c n W).mono ?_
  rintro e w' ⟨rfl,hb⟩
  exact ⟨0,rfl,hb⟩
 ·obtain ⟨g,o,rfl,hg,hc⟩:=hi (by rw [List.length_map];omega)
  refine (zdZ g o c l hl hr n hn W (fun k x hx =>hc k _ (by rw [List.getElem?_map,hx];rfl))).mono ?_
  rintro e w' ⟨p,rfl,hp,h1,h2,hb⟩
  refine ⟨p, ?_,hb⟩
  have:decide (l[p]?=some n)=l.contains n:=by
   rw [Bool.eq_iff_iff,decide_eq_true_eq,List.contains_iff_mem]
   constructor
   ·exact fun h =>List.mem_of_getElem? h
   ·intro h
    obtain ⟨j,hj⟩:=List.mem_iff_getElem?.1 h
    by_cases hjp:j < p
    ·have:=h1 j n hjp hj
     omega
    ·by_cases he:j=p
     ·rw [← he];exact hj
     ·obtain ⟨x,hx⟩:∃ x,l[p]?=some x:=⟨_,List.getElem?_eq_getElem (by have:=(List.getElem?_eq_some_iff.1 hj).1;omega)⟩
      have h3:=hr p j x n (by omega) hx hj
      have h4:=h2 p x (Nat.le_refl _) hx
      omega
  rw [this]
theorem zcM {n:Nat} (f:Nat→Bool):zcV ((List.range n).filter f):=fun i j x y hij hx hy =>by
 have h:=(List.pairwise_lt_range (n:=n)).filter f
 rw [List.pairwise_iff_getElem] at h
 obtain ⟨h1,rfl⟩:=List.getElem?_eq_some_iff.1 hx
 obtain ⟨h2,rfl⟩:=List.getElem?_eq_some_iff.1 hy
 exact h i j h1 h2 hij
def zbw (l m:List Nat):List Nat:=l.filter (fun n =>m.contains n)
def zap (l m:List Nat) (k:Nat):List Nat:=(l.take k).filter (fun n =>m.contains n)
theorem zcE {l m:List Nat} {k n:Nat} (h:l[k]?=some n):zap l m (k+1)=zap l m k++(if m.contains n then [n] else []):=by
 unfold zap
 rw [List.take_add_one,h,Option.toList_some,List.filter_append]
 congr 1
 cases hm:m.contains n
 ·rw [List.filter_cons_of_neg (by rw [hm];decide)];rfl
 ·rw [List.filter_cons_of_pos hm];rfl
theorem zds (l m:List Nat) (k:Nat):(zap l m k).length≤l.length:=by
 unfold zap
 refine Nat.le_trans (List.length_filter_le _ _) ?_
 rw [List.length_take]
 omega
set_option maxRecDepth 100000 in
set_option maxHeartbeats 4000000 in
theorem zfZ (a b:Option Addr) (ca cb:Nat) (l m:List Nat) (hl:l.length≤900000) (hm:m.length≤900000) (hr:zcV m) (hv:∀ n ∈ l,n≤1048576) (W:World) (h1:RowC W W.heap.size a (l.map zaP)) (h2:RowC W W.heap.size b (m.map zaP)) :
  Calls Tryz.prog 69 #[.slice a l.length ca,.slice b m.length cb] W fun e w' => ∃ v,e=.returned v∧w'.ownsRow W.heap.size 3 1 v (zbw l m).length ((zbw l m).map zaP)∧Below W.heap.size W w':=by
 obtain ⟨i0,hi,hz0,hz1,hz2⟩:=info_parts zb0
 have H1:=kz h1
 have HS:=kz (fun (n:Nat) (hn:n≤1048576) (w1:World) (hb:Below W.heap.size W w1) =>zdm b cb m (by omega) hr n hn w1 (h2.below hb hb.size))
 have H0:Hz (W.ownsRow W.heap.size 3 1 (.slice none 0 0) (zap l m 0).length ((zap l m 0).map zaP)∧Below W.heap.size W W):=kz ⟨World.ownsRow_nil _ _ _ _,Below.refl _ _⟩
 have HV:=kz hv
 clear h1 h2 hr hv
 go_enter Tryz.func69,Tryz.ntmps69
 go_wp2_with fail
 go_loopw [5,7,8,9,12] (fun s5 _ _ _ s12 wr => ∃ (k:Nat) (v5:Value),k≤l.length∧v5=s5∧s12=.int .i64 k∧Hz (wr.ownsRow W.heap.size 3 1 v5 (zap l m k).length ((zap l m k).map zaP)∧Below W.heap.size W wr)) (fun _ _ _ _ s12 _ =>l.length - (intOf s12).toNat)
 case atStart =>exact ⟨0,_,Nat.zero_le _,rfl,rfl,H0⟩
 case round =>
  obtain ⟨k,v5,hk,e5,rfl,HQ⟩:=hrel
  subst e5
  clear H0
  by_cases hkn:k < l.length
  ·obtain ⟨n,hn⟩:∃ n,l[k]?=some n:=⟨_,List.getElem?_eq_getElem hkn⟩
   obtain ⟨g,q,rfl,hg,hc⟩:=(oz H1) (by rw [List.length_map];omega)
   have kc:wr.cell? ⟨g,q+k,none⟩=some (.int .i64 n):=((oz HQ).2.cell (p:=⟨g,q+k,none⟩) hg).trans (hc k _ (by rw [List.getElem?_map,hn];rfl))
   have HI:=kz (oz HS n (oz HV n (List.mem_of_getElem? hn)) wr (oz HQ).2)
   have HK:=kz (zcE (m:=m) hn)
   have hk1:(k:Int) < (l.length:Int):=by omega
   have hk2:((k:Nat):Int).toNat=k:=by omega
   clear hn hc hg
   generalize m.contains n=bb at *
   go_wp2_with fail
   refine (oz HI).mono ?_
   rintro e w2 ⟨p,rfl,hb⟩
   have HQ2:=kz (And.intro (zal (oz HQ).1 hb) ((oz HQ).2.trans (hb.mono (oz HQ).2.size)))
   clear hb HI HQ kc
   cases bb with
   | false =>
    have HQ3:Hz (w2.ownsRow W.heap.size 3 1 v5 (zap l m (k+1)).length ((zap l m (k+1)).map zaP)∧Below W.heap.size W w2):=kz (by
     have hk:zap l m (k+1)=zap l m k++[]:=oz HK
     rw [hk,List.append_nil]
     exact oz HQ2)
    go_wp2_with fail
    exact ⟨⟨k+1,_,by omega,rfl,by go_num,HQ3⟩,by simp [intOf];omega⟩
   | true =>
    have hsl:=zds l m k
    go_wp2_with (at_builtin;refine zbP rfl _ _ 36 3 rfl i0 _ 8 Tryz.underlying36 hi hz0 hz1 hz2 rfl (by decide) W.heap.size v5 ((zap l m k).map zaP) (zaP n) rfl (by rw [List.length_map];omega) w2 rfl rfl (by rw [List.length_map];exact (oz HQ2).1) (oz HQ2).2.size _ rfl rfl ?_)
    intro v' w3 ho hb
    have HQ3:Hz (w3.ownsRow W.heap.size 3 1 v' (zap l m (k+1)).length ((zap l m (k+1)).map zaP)∧Below W.heap.size W w3):=kz (by
     have hk:zap l m (k+1)=zap l m k++[n]:=oz HK
     rw [hk,List.map_append,List.length_append,List.map_singleton]
     exact ⟨by first | exact ho | simpa using ho,(oz HQ2).2.trans hb⟩)
    clear ho hb
    go_wp2_with fail
    exact ⟨⟨k+1,_,by omega,rfl,by go_num,HQ3⟩,by simp [intOf];omega⟩
  ·have hk1:¬ (k:Int) < (l.length:Int):=by omega
   obtain rfl:k=l.length:=by omega
   have HF:Hz (wr.ownsRow W.heap.size 3 1 v5 (zbw l m).length ((zbw l m).map zaP)∧Below W.heap.size W wr):=kz (by
    have:=oz HQ
    have e:zap l m l.length=zbw l m:=by unfold zap zbw;rw [List.take_length]
    rwa [e] at this)
   clear HQ
   go_wp2_with fail
   go_ret
   exact ⟨v5,rfl,(oz HF).1,(oz HF).2⟩
end Go.Proofs.YtmemedpoaocdkaaGreat
