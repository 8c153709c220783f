/- A Book of tables: a table that is copied with all that its rows hold. -/
import Derived.Test.YthchopdfmchpkaaGreatM17
namespace Go.Proofs.YthchopdfmchpkaaGreat
open Go.RowKit Go.Shelf
set_option linter.unusedVariables false
set_option maxRecDepth 100000
set_option maxHeartbeats 8000000
structure OwF (w:World) (P R:Nat) (T:TV) (a0 a1 a2 a3 a4 a5 a6 a7:Option Addr) (c0 c1 c2 c3 c4 c5 c6 c7:Nat) (us:List Value):Prop where
 bx:Blk w P #[.slice a0 T.sc.length c0,.slice a1 T.co.length c1,.slice a2 T.ma.length c2,.slice a3 T.pr.length c3,.slice a4 T.fo.length c4,.slice a5 T.lk.length c5,.slice a6 T.dr.length c6,.slice a7 T.al.length c7] 31
 rs:Blk w R #[.slice none 0 0,.slice none 0 0,.slice none 0 0,.slice none 0 0,.slice none 0 0,.slice none 0 0,.slice none 0 0,.slice none 0 0] 31
 ti:TabIn w T a0 a1 a2 a3 a4 a5 a6 a7 us
theorem OwF.below {w w':World} {P R:Nat} {T:TV} {a0 a1 a2 a3 a4 a5 a6 a7:Option Addr} {c0 c1 c2 c3 c4 c5 c6 c7:Nat} {us:List Value} (h:OwF w P R T a0 a1 a2 a3 a4 a5 a6 a7 c0 c1 c2 c3 c4 c5 c6 c7 us) (hb:Below w.heap.size w w'):OwF w' P R T a0 a1 a2 a3 a4 a5 a6 a7 c0 c1 c2 c3 c4 c5 c6 c7 us :=
 ⟨h.bx.below hb h.bx.lt,h.rs.below hb h.rs.lt,h.ti.lower hb⟩
def owL (T:TV) (us:List Value):List Ln := [Ln.mk 96 2 T.sc.length (jE T.sc us),Ln.mk 94 2 T.co.length (zM T.co),Ln.mk 98 2 T.ma.length (XP T.ma),Ln.mk 100 3 T.pr.length (Xh T.pr),Ln.mk 102 2 T.fo.length (yW T.fo),Ln.mk 102 2 T.lk.length (yW T.lk),Ln.mk 94 2 T.dr.length (zM T.dr),Ln.mk 94 2 T.al.length (zM T.al)]
theorem zhy {w:World} {g j:Nat} {cur:Array Value} {t:TypeId} {v:Value} (h:Blk w g cur t) (hv:cur[j]?=some v):w.setCell ⟨g,j,none⟩ v=w:=by
 have h1:cur.setIfInBounds j v=cur:=by
  apply Array.ext_getElem?;intro k;rw [Array.getElem?_setIfInBounds];by_cases e:j=k
  ·subst e;rw [if_pos rfl,if_pos (zeI.1 hv).1,hv]
  ·rw [if_neg e]
 have hlt:g < w.heap.size:=(zeI.1 h).1;have hg:w.heap[g]=.cells cur t (0,0):=(zeI.1 h).2;have h2:(w.setCell ⟨g,j,none⟩ v).heap=w.heap:=by
  apply Array.ext_getElem?;intro k;unfold World.setCell;dsimp only;rw [Array.getElem?_modify];by_cases e:g=k
  ·subst e;rw [if_pos rfl,show w.heap[g]?=some (.cells cur t (0,0)) from h];simp [h1]
  ·rw [if_neg e]
 show ({ w with heap:=(w.setCell ⟨g,j,none⟩ v).heap }:World)=w;rw [h2]
def owD (P lo:Nat) (T:TV) (a0 a1 a2 a3 a4 a5 a6 a7:Option Addr) (c0 c1 c2 c3 c4 c5 c6 c7:Nat) (us:List Value):Nat→Value→World→Prop
 | 0,v,w =>v=.pointer (some ⟨P,0,none⟩)
 | 1,v,w =>v=.slice a0 T.sc.length c0
 | 2,v,w =>w.ownsRow lo 96 2 v T.sc.length (jE T.sc us)
 | 3,v,w =>v=.pointer (some ⟨P,1,none⟩)
 | 4,v,w =>v=.slice a1 T.co.length c1
 | 5,v,w =>w.ownsRow lo 94 2 v T.co.length (zM T.co)
 | 6,v,w =>v=.pointer (some ⟨P,2,none⟩)
 | 7,v,w =>v=.slice a2 T.ma.length c2
 | 8,v,w =>w.ownsRow lo 98 2 v T.ma.length (XP T.ma)
 | 9,v,w =>v=.pointer (some ⟨P,3,none⟩)
 | 10,v,w =>v=.slice a3 T.pr.length c3
 | 11,v,w =>w.ownsRow lo 100 3 v T.pr.length (Xh T.pr)
 | 12,v,w =>v=.pointer (some ⟨P,4,none⟩)
 | 13,v,w =>v=.slice a4 T.fo.length c4
 | 14,v,w =>w.ownsRow lo 102 2 v T.fo.length (yW T.fo)
 | 15,v,w =>v=.pointer (some ⟨P,5,none⟩)
 | 16,v,w =>v=.slice a5 T.lk.length c5
 | 17,v,w =>w.ownsRow lo 102 2 v T.lk.length (yW T.lk)
 | 18,v,w =>v=.pointer (some ⟨P,6,none⟩)
 | 19,v,w =>v=.slice a6 T.dr.length c6
 | 20,v,w =>w.ownsRow lo 94 2 v T.dr.length (zM T.dr)
 | 21,v,w =>v=.pointer (some ⟨P,7,none⟩)
 | 22,v,w =>v=.slice a7 T.al.length c7
 | 23,v,w =>w.ownsRow lo 94 2 v T.al.length (zM T.al)
 | 24,v,w => ∃ x0 y0 x1 y1 x2 y2 x3 y3 x4 y4 x5 y5 x6 y6 x7 y7,v=.agg #[.slice x0 T.sc.length y0,.slice x1 T.co.length y1,.slice x2 T.ma.length y2,.slice x3 T.pr.length y3,.slice x4 T.fo.length y4,.slice x5 T.lk.length y5,.slice x6 T.dr.length y6,.slice x7 T.al.length y7]∧Lst w lo [.slice x0 T.sc.length y0,.slice x1 T.co.length y1,.slice x2 T.ma.length y2,.slice x3 T.pr.length y3,.slice x4 T.fo.length y4,.slice x5 T.lk.length y5,.slice x6 T.dr.length y6,.slice x7 T.al.length y7] (owL T us)
 | _,v,w =>True
def zin (j:Nat):Bool:=j % 3 == 2 && decide (j < 24)
theorem jC {P lo:Nat} {T:TV} {a0 a1 a2 a3 a4 a5 a6 a7:Option Addr} {c0 c1 c2 c3 c4 c5 c6 c7:Nat} {us:List Value} {w w':World} (hb:Below w.heap.size w w'):∀ (j:Nat) (v:Value),owD P lo T a0 a1 a2 a3 a4 a5 a6 a7 c0 c1 c2 c3 c4 c5 c6 c7 us j v w→owD P lo T a0 a1 a2 a3 a4 a5 a6 a7 c0 c1 c2 c3 c4 c5 c6 c7 us j v w'
 | 0,v,h =>h
 | 1,v,h =>h
 | 2,v,h =>zu h hb
 | 3,v,h =>h
 | 4,v,h =>h
 | 5,v,h =>zu h hb
 | 6,v,h =>h
 | 7,v,h =>h
 | 8,v,h =>zu h hb
 | 9,v,h =>h
 | 10,v,h =>h
 | 11,v,h =>zu h hb
 | 12,v,h =>h
 | 13,v,h =>h
 | 14,v,h =>zu h hb
 | 15,v,h =>h
 | 16,v,h =>h
 | 17,v,h =>zu h hb
 | 18,v,h =>h
 | 19,v,h =>h
 | 20,v,h =>zu h hb
 | 21,v,h =>h
 | 22,v,h =>h
 | 23,v,h =>zu h hb
 | 24,v,h =>let ⟨x0,y0,x1,y1,x2,y2,x3,y3,x4,y4,x5,y5,x6,y6,x7,y7,e,h1⟩:=h; ⟨x0,y0,x1,y1,x2,y2,x3,y3,x4,y4,x5,y5,x6,y6,x7,y7,e,h1.kept (YV (row:=none) hb) (fun b e =>by cases e)⟩
 | _+25,v,h =>h
theorem jD {P lo:Nat} {T:TV} {a0 a1 a2 a3 a4 a5 a6 a7:Option Addr} {c0 c1 c2 c3 c4 c5 c6 c7:Nat} {us:List Value} {w:World}:∀ (j:Nat) (v:Value) (hm:zin j=true) (h:owD P lo T a0 a1 a2 a3 a4 a5 a6 a7 c0 c1 c2 c3 c4 c5 c6 c7 us j v w), ∀ b,v.ownBlock=some b→b < w.heap.size
 | 0,v,hm,h =>absurd hm (by decide)
 | 1,v,hm,h =>absurd hm (by decide)
 | 2,v,hm,h =>qF h
 | 3,v,hm,h =>absurd hm (by decide)
 | 4,v,hm,h =>absurd hm (by decide)
 | 5,v,hm,h =>qF h
 | 6,v,hm,h =>absurd hm (by decide)
 | 7,v,hm,h =>absurd hm (by decide)
 | 8,v,hm,h =>qF h
 | 9,v,hm,h =>absurd hm (by decide)
 | 10,v,hm,h =>absurd hm (by decide)
 | 11,v,hm,h =>qF h
 | 12,v,hm,h =>absurd hm (by decide)
 | 13,v,hm,h =>absurd hm (by decide)
 | 14,v,hm,h =>qF h
 | 15,v,hm,h =>absurd hm (by decide)
 | 16,v,hm,h =>absurd hm (by decide)
 | 17,v,hm,h =>qF h
 | 18,v,hm,h =>absurd hm (by decide)
 | 19,v,hm,h =>absurd hm (by decide)
 | 20,v,hm,h =>qF h
 | 21,v,hm,h =>absurd hm (by decide)
 | 22,v,hm,h =>absurd hm (by decide)
 | 23,v,hm,h =>qF h
 | 24,v,hm,h =>absurd hm (by decide)
 | _+25,v,hm,h =>absurd hm (by simp [zin])
theorem Qp (t:List (ByteArray × List (Int × Int))) (us:List Value) (h:us.length=t.length) (j:Nat) (s:ByteArray × List (Int × Int)) (hs:t[j]?=some s):(jE t us)[j*2]?=some (.string s.1):=by
 induction t generalizing us j with
 | nil =>simp at hs
 | cons x t ih =>cases us with
  | nil =>cases h
  | cons v us =>cases j with
   | zero =>
    obtain rfl:x=s:=by simpa using hs
    rfl
   | succ j =>
    rw [show (j+1)*2=j*2+1+1 by omega];show (_::_::jE t us)[j*2+1+1]?=_;rw [List.getElem?_cons_succ,List.getElem?_cons_succ];exact ih us (by simpa using h) j (by simpa using hs)
structure OuSt (w9 wr:World) (lo g cap:Nat) (sc:List (ByteArray × List (Int × Int))) (us:List Value) (i:Nat) (cu:List Value):Prop where
 row:wr.ownsRow lo 96 2 (.slice (some ⟨g,0,none⟩) sc.length cap) sc.length (jE sc cu)
 len:cu.length=sc.length
 old:∀ j,i≤j→cu[j]?=us[j]?
 new:∀ (j:Nat) (x:Value) (s:ByteArray × List (Int × Int)),j < i→cu[j]?=some x→sc[j]?=some s→wr.ownsRow w9.heap.size 94 2 x s.2.length (zM s.2)
 apart:∀ (j k:Nat) (x y:Value),j < i→k < i→j≠k→cu[j]?=some x→cu[k]?=some y→x.ownBlock=none∨x.ownBlock≠y.ownBlock
 gr:w9.grownBy wr (some g)
theorem OuSt.next {w9 wr w1:World} {lo g cap:Nat} {sc:List (ByteArray × List (Int × Int))} {us:List Value} {i:Nat} {cu:List Value} {v':Value} {s:ByteArray × List (Int × Int)} (h:OuSt w9 wr lo g cap sc us i cu) (hs:sc[i]?=some s) (hn:w1.ownsRow wr.heap.size 94 2 v' s.2.length (zM s.2)) (hb:Below wr.heap.size wr w1) :
  OuSt w9 (w1.setCell ⟨g,i*2+1,none⟩ v') lo g cap sc us (i+1) (cu.set i v'):=by
 rw [show i*2+1=2*i+1 by omega];have hi:=(Ze.1 hs).1;have hlen:=h.len;have hsz:=h.gr.size;have hgl:g < wr.heap.size:=qF h.row g rfl;have hg1:wr.grownBy w1 none:=YV hb;have hq:=yA w1 g (2*i+1) v';have hvg:v'.ownBlock=none∨v'.ownBlock≠some g := .inr fun e =>by have:=jO hn g e;omega
 refine ⟨?_,by rw [List.length_set];exact hlen,fun j hj =>by rw [List.getElem?_set_ne (by omega)];exact h.old j (by omega), ?_, ?_, ?_⟩
 ·have r1:=ze7 (XN h.row hg1 (.inr (by simp [Value.ownBlock]))) (2*i+1) (by omega) v';rw [zgj _ _ hlen] at r1;exact r1
 ·intro j x t hj hx ht;by_cases e:j=i
  ·subst e;rw [List.getElem?_set_self (by omega)] at hx;obtain rfl:=Zo hx;obtain rfl:=Zo (hs.symm.trans ht);exact XN (yH hn hsz) hq hvg
  ·rw [List.getElem?_set_ne (Ne.symm e)] at hx;have o1:=h.new j x t (by omega) hx ht;refine XN (XN o1 hg1 (zde _)) hq ?_;exact zc8 (XN o1 hg1 (zde _)) (XN h.row hg1 (.inr (by simp [Value.ownBlock]))) (by decide)
 ·intro j k x y hj hk hjk hx hy;by_cases e:j=i
  ·subst e;rw [List.getElem?_set_self (by omega)] at hx;rw [List.getElem?_set_ne hjk] at hy;obtain rfl:=Zo hx;obtain ⟨t,ht⟩:∃ t,sc[k]?=some t:=⟨_,qR (by omega)⟩;cases hvb:v'.ownBlock with
   | none =>exact .inl rfl
   | some b =>
    refine .inr fun e2 =>?_
    have h3:=jO hn b hvb;have h4:=qF (h.new k y t (by omega) hy ht) b e2.symm;omega
  ·rw [List.getElem?_set_ne (Ne.symm e)] at hx;by_cases e3:k=i
   ·subst e3;rw [List.getElem?_set_self (by omega)] at hy;obtain rfl:=Zo hy;obtain ⟨t,ht⟩:∃ t,sc[j]?=some t:=⟨_,qR (by omega)⟩;cases hxb:x.ownBlock with
    | none =>exact .inl rfl
    | some b =>
     refine .inr fun e2 =>?_
     have h3:=jO hn b e2.symm;have h4:=qF (h.new j x t (by omega) hx ht) b hxb;omega
   ·rw [List.getElem?_set_ne (Ne.symm e3)] at hy;exact h.apart j k x y (by omega) (by omega) hjk hx hy
 ·exact (h.gr.trans (YV hb)).trans hq
theorem Lst.append {W:World} {lo:Nat} {vs us:List Value} {ls ms:List Ln} (h:Lst W lo vs ls) (k:Lst W lo us ms) (hx:∀ (i j:Nat) (v u:Value),vs[i]?=some v→us[j]?=some u→v.ownBlock=none∨v.ownBlock≠u.ownBlock):Lst W lo (vs++us) (ls++ms):=by
 have h1:=h.ll;have h2:=k.ll;have key:∀ (i:Nat) (y:Value),(vs++us)[i]?=some y→(i < vs.length∧vs[i]?=some y)∨(vs.length≤i∧us[i - vs.length]?=some y):=by
  intro i y hy;by_cases hi:i < vs.length
  ·rw [List.getElem?_append_left hi] at hy;exact .inl ⟨hi,hy⟩
  ·rw [List.getElem?_append_right (by omega)] at hy;exact .inr ⟨by omega,hy⟩
 refine ⟨by rw [List.length_append,List.length_append,h1,h2],fun i v l hv hl =>?_,fun i j v u hij hv hu =>?_⟩
 ·rcases key i v hv with ⟨h3,h4⟩ | ⟨h3,h4⟩
  ·rw [List.getElem?_append_left (by omega)] at hl;exact h.own i v l h4 hl
  ·rw [List.getElem?_append_right (by omega),h1] at hl;exact k.own _ v l h4 hl
 ·rcases key i v hv with ⟨h3,h4⟩ | ⟨h3,h4⟩ <;> rcases key j u hu with ⟨h5,h6⟩ | ⟨h5,h6⟩
  ·exact h.apart i j v u hij h4 h6
  ·exact hx _ _ v u h4 h6
  ·exact JQ (hx _ _ u v h6 h4)
  ·exact k.apart _ _ v u (by omega) h4 h6
theorem Lst.tail {W:World} {lo:Nat} {v:Value} {vs:List Value} {l:Ln} {ls:List Ln} (h:Lst W lo (v::vs) (l::ls)):Lst W lo vs ls :=
 ⟨by have:=h.ll;simpa using this,fun i x m hx hm =>h.own (i+1) x m (by rw [List.getElem?_cons_succ];exact hx) (by rw [List.getElem?_cons_succ];exact hm),fun i j x y hij hx hy =>h.apart (i+1) (j+1) x y (by omega) (by rw [List.getElem?_cons_succ];exact hx) (by rw [List.getElem?_cons_succ];exact hy)⟩
theorem Lst.keptA {W W':World} {lo:Nat} {vs:List Value} {ls:List Ln} {row:Option Nat} (h:Lst W lo vs ls) (hg:W.grownBy W' row) (hne:∀ (i:Nat) (v:Value),vs[i]?=some v→v.ownBlock=none∨v.ownBlock≠row):Lst W' lo vs ls :=
 ⟨h.ll,fun i v l hv hl =>XN (h.own i v l hv hl) hg (hne i v hv),h.apart⟩
theorem zkm {w:World} {lo:Nat} {sc:List (ByteArray × List (Int × Int))} {us:List Value} {v:Value} (hl:us.length=sc.length) (h1:w.ownsRow lo 96 2 v sc.length (jE sc us)) (h2:∀ (j:Nat) (x:Value) (s:ByteArray × List (Int × Int)),us[j]?=some x→sc[j]?=some s→w.ownsRow lo 94 2 x s.2.length (zM s.2)) (h3:∀ (j k:Nat) (x y:Value),j≠k→us[j]?=some x→us[k]?=some y→x.ownBlock=none∨x.ownBlock≠y.ownBlock) :
  Lst w lo (v::us) (Ln.mk 96 2 sc.length (jE sc us)::sc.map (fun s =>Ln.mk 94 2 s.2.length (zM s.2))):=by
 refine ⟨by rw [List.length_cons,List.length_cons,List.length_map,hl], ?_, ?_⟩
 ·intro i x l hx hm;cases i with
  | zero =>
   obtain rfl:=Zo hx;obtain rfl:=Zo hm;exact h1
  | succ i =>
   rw [List.getElem?_cons_succ] at hx hm;rw [List.getElem?_map] at hm;obtain ⟨s,hs,rfl⟩:=Option.map_eq_some_iff.1 hm;exact h2 i x s hx hs
 ·have hA:∀ (j:Nat) (x:Value),us[j]?=some x→x.ownBlock=none∨x.ownBlock≠v.ownBlock:=by
   intro j x hx;obtain ⟨s,hs⟩:∃ s,sc[j]?=some s:=⟨_,qR (by have:=(Ze.1 hx).1;omega)⟩;exact zc8 (h2 j x s hx hs) h1 (by decide)
  intro i j x y hij hx hy;cases i with
  | zero =>cases j with
   | zero =>exact absurd rfl hij
   | succ j =>
    obtain rfl:=Zo hx;exact JQ (hA j y hy)
  | succ i =>cases j with
   | zero =>
    obtain rfl:=Zo hy;exact hA i x hx
   | succ j =>exact h3 i j x y (by omega) hx hy
theorem zi3 {w9 wr:World} {lo g cap:Nat} {T:TV} {us cu vs:List Value} (h:OuSt w9 wr lo g cap T.sc us T.sc.length cu) (hlo:lo≤w9.heap.size) (hL:Lst w9 lo (.slice (some ⟨g,0,none⟩) T.sc.length cap::vs) (owL T us)) :
  Lst wr lo ((.slice (some ⟨g,0,none⟩) T.sc.length cap::cu)++vs) (Qv T cu):=by
 have hlen:=h.len;have hll:=hL.ll;have e:Qv T cu=(Ln.mk 96 2 T.sc.length (jE T.sc cu)::T.sc.map (fun s =>Ln.mk 94 2 s.2.length (zM s.2)))++(owL T us).tail:=by simp [Qv,owL]
 have hA:∀ (i:Nat) (v:Value),vs[i]?=some v→v.ownBlock=none∨v.ownBlock≠some g:=fun i v hv =>JQ (hL.apart 0 (i+1) _ v (by omega) rfl (by rw [List.getElem?_cons_succ];exact hv)) |>.imp id (fun q =>by simpa [Value.ownBlock] using q)
 have h7:Lst w9 lo vs (owL T us).tail:=Lst.tail hL;rw [e];refine (zkm hlen h.row (fun j x s hx hs =>yH (h.new j x s (by have:=(Ze.1 hs).1;omega) hx hs) hlo) (fun j k x y hjk hx hy =>h.apart j k x y (by have:=(Ze.1 hx).1;omega) (by have:=(Ze.1 hy).1;omega) hjk hx hy)).append (h7.keptA h.gr hA) ?_;intro i j v u hv hu;cases i with
 | zero =>
  obtain rfl:=Zo hv;exact hL.apart 0 (j+1) _ u (by omega) rfl (by rw [List.getElem?_cons_succ];exact hu)
 | succ i =>
  rw [List.getElem?_cons_succ] at hv;have hi:=(Ze.1 hv).1;obtain ⟨s,hs⟩:∃ s,T.sc[i]?=some s:=⟨_,qR (by omega)⟩;obtain ⟨m,hm⟩:∃ m,(owL T us).tail[j]?=some m:=⟨_,qR (by have:=(Ze.1 hu).1;have:=h7.ll;omega)⟩;cases hvb:v.ownBlock with
  | none =>exact .inl rfl
  | some b =>
   refine .inr fun e2 =>?_
   have h3:=jO (h.new i v s (by omega) hv hs) b hvb;have h4:=qF (h7.own j u m hu hm) b e2.symm;omega
structure OwN (W w9:World) (T:TV) (us:List Value) (x0 x1 x2 x3 x4 x5 x6 x7:Option Addr) (y0 y1 y2 y3 y4 y5 y6 y7:Nat):Prop where
 bx:Blk w9 W.heap.size #[.slice x0 T.sc.length y0,.slice x1 T.co.length y1,.slice x2 T.ma.length y2,.slice x3 T.pr.length y3,.slice x4 T.fo.length y4,.slice x5 T.lk.length y5,.slice x6 T.dr.length y6,.slice x7 T.al.length y7] 31
 ls:Lst w9 (W.heap.size+2) [.slice x0 T.sc.length y0,.slice x1 T.co.length y1,.slice x2 T.ma.length y2,.slice x3 T.pr.length y3,.slice x4 T.fo.length y4,.slice x5 T.lk.length y5,.slice x6 T.dr.length y6,.slice x7 T.al.length y7] (owL T us)
 rs:Blk w9 (W.heap.size+1) #[.slice none 0 0,.slice none 0 0,.slice none 0 0,.slice none 0 0,.slice none 0 0,.slice none 0 0,.slice none 0 0,.slice none 0 0] 31
 bel:Below W.heap.size W w9
 sz:W.heap.size+2≤w9.heap.size
theorem zkh {w:World} {lo E sz n C g j:Nat} {u:Value} {xs:List Value} (h:w.ownsRow lo E sz (.slice (some ⟨g,0,none⟩) n C) n xs) (hu:xs[j]?=some u):w.setCell ⟨g,j,none⟩ u=w:=by
 rcases h.2 with ⟨e,_⟩ | ⟨g',cap',cur,e,hb,hg,hc,hm,hcs,hx⟩
 ·cases e
 ·injection e with e1 e2 e3;injection e1 with e1;injection e1 with e1;subst e1;refine zhy (show Blk w g cur E from hg) ?_;rw [← hx] at hu;have hlt:j < n*sz:=by
   have h5:=(Ze.1 hu).1;rw [List.length_take] at h5;omega
  rw [List.getElem?_take_of_lt hlt,Array.getElem?_toList] at hu;exact hu
def osD (P B lo g n y k:Nat) (s1:ByteArray) (s2:List (Int × Int)) (b:Option Addr) (d:Nat):Nat→Value→World→Prop
 | 0,v,w =>v=.pointer (some ⟨P,0,none⟩)
 | 1,v,w =>v=.slice (some ⟨g,0,none⟩) n y
 | 2,v,w =>v=.int .i64 (k:Nat)
 | 3,v,w =>v=.pointer (some ⟨B,0,none⟩)
 | 4,v,w =>v=.string s1
 | 5,v,w =>v=.string s1
 | 6,v,w =>v=.pointer (some ⟨B,1,none⟩)
 | 7,v,w =>v=.slice b s2.length d
 | 8,v,w => ∃ p q,v=.slice p s2.length q∧w.ownsRow lo 94 2 (.slice p s2.length q) s2.length (zM s2)
 | 9,v,w => ∃ p q,v=.agg #[.string s1,.slice p s2.length q]∧w.ownsRow lo 94 2 (.slice p s2.length q) s2.length (zM s2)
 | 10,v,w =>v=.pointer (some ⟨g,k*2,none⟩)
 | _,v,w =>True
def zkS (j:Nat):Bool:=false
theorem YX {P B lo g n y k:Nat} {s1:ByteArray} {s2:List (Int × Int)} {b:Option Addr} {d:Nat} {w w':World} (hb:Below w.heap.size w w'):∀ (j:Nat) (v:Value),osD P B lo g n y k s1 s2 b d j v w→osD P B lo g n y k s1 s2 b d j v w'
 | 0,v,h =>h
 | 1,v,h =>h
 | 2,v,h =>h
 | 3,v,h =>h
 | 4,v,h =>h
 | 5,v,h =>h
 | 6,v,h =>h
 | 7,v,h =>h
 | 8,v,h =>let ⟨p,q,e,h1⟩:=h; ⟨p,q,e,zu h1 hb⟩
 | 9,v,h =>let ⟨p,q,e,h1⟩:=h; ⟨p,q,e,zu h1 hb⟩
 | 10,v,h =>h
 | _+11,v,h =>h
theorem YY {P B lo g n y k:Nat} {s1:ByteArray} {s2:List (Int × Int)} {b:Option Addr} {d:Nat} {w:World} (j:Nat) (v:Value) (hm:zkS j=true) (h:osD P B lo g n y k s1 s2 b d j v w):∀ b,v.ownBlock=some b→b < w.heap.size:=by
 cases hm
theorem zbZ (U:Nat→Value) (i:Nat) (v:Value) (h:[U 2,U 5,U 8,U 11,U 14,U 17,U 20,U 23][i]?=some v):i < 8∧v=U (3*i+2):=by
 have hi:i < 8:=(Ze.1 h).1;refine ⟨hi, ?_⟩;obtain rfl | rfl | rfl | rfl | rfl | rfl | rfl | rfl:i=0∨i=1∨i=2∨i=3∨i=4∨i=5∨i=6∨i=7:=by omega
 all_goals exact (Zo h).symm
theorem zi5 {W0:World} {P lo:Nat} {T:TV} {a0 a1 a2 a3 a4 a5 a6 a7:Option Addr} {c0 c1 c2 c3 c4 c5 c6 c7:Nat} {us:List Value} {l:Array Bool} {U:Nat→Value} {w:World} (h:RgJ W0 lo (owD P lo T a0 a1 a2 a3 a4 a5 a6 a7 c0 c1 c2 c3 c4 c5 c6 c7 us) zin l U w) (hl:∀ i,i < 8→l.getD (3*i+2) false=true):Lst w lo [U 2,U 5,U 8,U 11,U 14,U 17,U 20,U 23] (owL T us):=by
 refine ⟨rfl,fun i v n hv hn =>?_,fun i j v u hij hv hu =>?_⟩
 ·obtain ⟨hi,rfl⟩:=zbZ U i v hv;have h1:=h.val _ (hl i hi);obtain rfl | rfl | rfl | rfl | rfl | rfl | rfl | rfl:i=0∨i=1∨i=2∨i=3∨i=4∨i=5∨i=6∨i=7:=by omega
  all_goals
   obtain rfl:=Zo hn;exact h1
 ·obtain ⟨hi,rfl⟩:=zbZ U i v hv;obtain ⟨hj,rfl⟩:=zbZ U j u hu;exact h.ap _ _ (by simp [zin];omega) (by simp [zin];omega) (by omega) (hl i hi) (hl j hj)
theorem zi4 (T:TV) (hO:Jj T) (z0:∀ x ∈ T.sc,x.1.size≤1048576) (z4:∀ x ∈ T.fo,x.2.size≤1048576) (z5:∀ x ∈ T.lk,x.2.size≤1048576) (a0 a1 a2 a3 a4 a5 a6 a7:Option Addr) (c0 c1 c2 c3 c4 c5 c6 c7:Nat) (us:List Value) (W:World) (hT:TabIn W T a0 a1 a2 a3 a4 a5 a6 a7 us) :
  Calls Tryz.prog 85 #[.agg #[.slice a0 T.sc.length c0,.slice a1 T.co.length c1,.slice a2 T.ma.length c2,.slice a3 T.pr.length c3,.slice a4 T.fo.length c4,.slice a5 T.lk.length c5,.slice a6 T.dr.length c6,.slice a7 T.al.length c7]] W fun e w' => ∃ v,e=.returned v∧TabAt w' W.heap.size T v∧Below W.heap.size W w':=by
 have hmx:=zdA
 have hB0:Below W.heap.size W ((W.alloc (.cells #[.slice a0 T.sc.length c0,.slice a1 T.co.length c1,.slice a2 T.ma.length c2,.slice a3 T.pr.length c3,.slice a4 T.fo.length c4,.slice a5 T.lk.length c5,.slice a6 T.dr.length c6,.slice a7 T.al.length c7] 31)).alloc (.cells #[.slice none 0 0,.slice none 0 0,.slice none 0 0,.slice none 0 0,.slice none 0 0,.slice none 0 0,.slice none 0 0,.slice none 0 0] 31)).drew:=(((Below.refl _ W).alloc zD _).alloc (by simp) _).trans ⟨rfl,rfl,rfl,zD,fun _ _ =>rfl⟩;have bR:=Blk.new (W.alloc (.cells #[.slice a0 T.sc.length c0,.slice a1 T.co.length c1,.slice a2 T.ma.length c2,.slice a3 T.pr.length c3,.slice a4 T.fo.length c4,.slice a5 T.lk.length c5,.slice a6 T.dr.length c6,.slice a7 T.al.length c7] 31)) #[.slice none 0 0,.slice none 0 0,.slice none 0 0,.slice none 0 0,.slice none 0 0,.slice none 0 0,.slice none 0 0,.slice none 0 0] 31;rw [World.size_alloc] at bR;have bP:Blk ((W.alloc (.cells #[.slice a0 T.sc.length c0,.slice a1 T.co.length c1,.slice a2 T.ma.length c2,.slice a3 T.pr.length c3,.slice a4 T.fo.length c4,.slice a5 T.lk.length c5,.slice a6 T.dr.length c6,.slice a7 T.al.length c7] 31)).alloc (.cells #[.slice none 0 0,.slice none 0 0,.slice none 0 0,.slice none 0 0,.slice none 0 0,.slice none 0 0,.slice none 0 0,.slice none 0 0] 31)).drew W.heap.size #[.slice a0 T.sc.length c0,.slice a1 T.co.length c1,.slice a2 T.ma.length c2,.slice a3 T.pr.length c3,.slice a4 T.fo.length c4,.slice a5 T.lk.length c5,.slice a6 T.dr.length c6,.slice a7 T.al.length c7] 31:=(show Blk ((W.alloc (.cells #[.slice a0 T.sc.length c0,.slice a1 T.co.length c1,.slice a2 T.ma.length c2,.slice a3 T.pr.length c3,.slice a4 T.fo.length c4,.slice a5 T.lk.length c5,.slice a6 T.dr.length c6,.slice a7 T.al.length c7] 31)).alloc (.cells #[.slice none 0 0,.slice none 0 0,.slice none 0 0,.slice none 0 0,.slice none 0 0,.slice none 0 0,.slice none 0 0,.slice none 0 0] 31)) W.heap.size #[.slice a0 T.sc.length c0,.slice a1 T.co.length c1,.slice a2 T.ma.length c2,.slice a3 T.pr.length c3,.slice a4 T.fo.length c4,.slice a5 T.lk.length c5,.slice a6 T.dr.length c6,.slice a7 T.al.length c7] 31 from (Blk.new W #[.slice a0 T.sc.length c0,.slice a1 T.co.length c1,.slice a2 T.ma.length c2,.slice a3 T.pr.length c3,.slice a4 T.fo.length c4,.slice a5 T.lk.length c5,.slice a6 T.dr.length c6,.slice a7 T.al.length c7] 31).kept (World.grownBy_alloc _ _ none) (by simp));have HS2:Hz (((W.alloc (.cells #[.slice a0 T.sc.length c0,.slice a1 T.co.length c1,.slice a2 T.ma.length c2,.slice a3 T.pr.length c3,.slice a4 T.fo.length c4,.slice a5 T.lk.length c5,.slice a6 T.dr.length c6,.slice a7 T.al.length c7] 31)).alloc (.cells #[.slice none 0 0,.slice none 0 0,.slice none 0 0,.slice none 0 0,.slice none 0 0,.slice none 0 0,.slice none 0 0,.slice none 0 0] 31)).drew.heap.size=W.heap.size+2):=kz (by show ((W.alloc (.cells #[.slice a0 T.sc.length c0,.slice a1 T.co.length c1,.slice a2 T.ma.length c2,.slice a3 T.pr.length c3,.slice a4 T.fo.length c4,.slice a5 T.lk.length c5,.slice a6 T.dr.length c6,.slice a7 T.al.length c7] 31)).alloc (.cells #[.slice none 0 0,.slice none 0 0,.slice none 0 0,.slice none 0 0,.slice none 0 0,.slice none 0 0,.slice none 0 0,.slice none 0 0] 31)).heap.size=_;simp);have hF:OwF ((W.alloc (.cells #[.slice a0 T.sc.length c0,.slice a1 T.co.length c1,.slice a2 T.ma.length c2,.slice a3 T.pr.length c3,.slice a4 T.fo.length c4,.slice a5 T.lk.length c5,.slice a6 T.dr.length c6,.slice a7 T.al.length c7] 31)).alloc (.cells #[.slice none 0 0,.slice none 0 0,.slice none 0 0,.slice none 0 0,.slice none 0 0,.slice none 0 0,.slice none 0 0,.slice none 0 0] 31)).drew W.heap.size (W.heap.size+1) T a0 a1 a2 a3 a4 a5 a6 a7 c0 c1 c2 c3 c4 c5 c6 c7 us:=⟨bP,bR,hT.lower hB0⟩;have HF:Hz (∀ w1,Below ((W.alloc (.cells #[.slice a0 T.sc.length c0,.slice a1 T.co.length c1,.slice a2 T.ma.length c2,.slice a3 T.pr.length c3,.slice a4 T.fo.length c4,.slice a5 T.lk.length c5,.slice a6 T.dr.length c6,.slice a7 T.al.length c7] 31)).alloc (.cells #[.slice none 0 0,.slice none 0 0,.slice none 0 0,.slice none 0 0,.slice none 0 0,.slice none 0 0,.slice none 0 0,.slice none 0 0] 31)).drew.heap.size ((W.alloc (.cells #[.slice a0 T.sc.length c0,.slice a1 T.co.length c1,.slice a2 T.ma.length c2,.slice a3 T.pr.length c3,.slice a4 T.fo.length c4,.slice a5 T.lk.length c5,.slice a6 T.dr.length c6,.slice a7 T.al.length c7] 31)).alloc (.cells #[.slice none 0 0,.slice none 0 0,.slice none 0 0,.slice none 0 0,.slice none 0 0,.slice none 0 0,.slice none 0 0,.slice none 0 0] 31)).drew w1→OwF w1 W.heap.size (W.heap.size+1) T a0 a1 a2 a3 a4 a5 a6 a7 c0 c1 c2 c3 c4 c5 c6 c7 us):=kz (fun w1 h =>hF.below h);have HB0:=kz hB0;have HSL:Hz (∀ (j:Nat) (u:Value),us[j]?=some u→∃ p n d,u=Value.slice p n d):=kz (fun j u hu =>by
  obtain ⟨s,hs⟩:∃ s,T.sc[j]?=some s:=⟨_,qR (by have:=(Ze.1 hu).1;have:=hT.lu;omega)⟩;obtain ⟨b,d,rfl,_⟩:=hT.rs j s u hs hu;exact ⟨_,_,_,rfl⟩)
 have HT:=kz hT;have HO:=kz hO;clear hT hO bP bR hB0 hF;go_enter Tryz.func85,Tryz.ntmps85;go_wp2_with fail
 generalize ((W.alloc _).alloc _)=wz at *;refine zn hmx 25 (by decide) (by kernel_rfl) (by kernel_rfl) (fun l a w => ∃ U:Nat→Value,a = { tmps:=#[.agg #[.slice a0 T.sc.length c0,.slice a1 T.co.length c1,.slice a2 T.ma.length c2,.slice a3 T.pr.length c3,.slice a4 T.fo.length c4,.slice a5 T.lk.length c5,.slice a6 T.dr.length c6,.slice a7 T.al.length c7],.pointer (some ⟨W.heap.size,0,none⟩),.pointer (some ⟨W.heap.size+1,0,none⟩),undef,undef,U 0,U 1,U 2,U 3,U 4,U 5,U 6,U 7,U 8,U 9,U 10,U 11,U 12,U 13,U 14,U 15,U 16,U 17,U 18,U 19,U 20,U 21,U 22,U 23,U 24,undef,undef,undef,undef,undef,undef,undef,undef,undef,undef,undef,undef,undef,undef,undef,undef,undef,undef,undef,undef,undef],defers := [] }∧RgJ (wz.drew) (wz.drew.heap.size) (owD W.heap.size wz.drew.heap.size T a0 a1 a2 a3 a4 a5 a6 a7 c0 c1 c2 c3 c4 c5 c6 c7 us) zin l U w) ⟨fun _ =>undef,rfl,RgJ.start _ _ zD⟩ ?_ ?_
 ·rintro l a w i ⟨U,rfl,hJ⟩ hl hi hif;have h0:=(mem_ready.1 hi).1;have hlt:=Xo hl h0;have HJ:=kz hJ;clear hJ hl
  replace hlt:i < 26:=hlt
  obtain rfl | rfl | rfl | rfl | rfl | rfl | rfl | rfl | rfl | rfl | rfl | rfl | rfl | rfl | rfl | rfl | rfl | rfl | rfl | rfl | rfl | rfl | rfl | rfl | rfl:i=0∨i=1∨i=2∨i=3∨i=4∨i=5∨i=6∨i=7∨i=8∨i=9∨i=10∨i=11∨i=12∨i=13∨i=14∨i=15∨i=16∨i=17∨i=18∨i=19∨i=20∨i=21∨i=22∨i=23∨i=24:=by omega
  any_goals refine Ky rfl (fun K hK =>?_)
  ·clear hlt hif;go_simp;exact hK _ _ ⟨za U 0 _,rfl,(oz HJ).put 0 _ h0 zl (jC zl) rfl jD (zJ rfl)⟩
  ·clear hlt hif;have d0:U 0=.pointer (some ⟨W.heap.size,0,none⟩):=(oz HJ).val 0 (zb hi 0 (by kernel_rfl));have q0:=(oz HF w (oz HJ).bel).bx.cell 0;go_simp;exact hK _ _ ⟨za U 1 _,(by rw [zc d0];rfl),(oz HJ).put 1 _ h0 zl (jC zl) rfl jD (zJ rfl)⟩
  ·clear hlt hif;have d1:U 1=.slice a0 T.sc.length c0:=(oz HJ).val 1 (zb hi 1 (by kernel_rfl));go_simp;refine (zbD T.sc us (oz HT).lu (oz HSL) (oz HO).n0 a0 c0 w (oz HF w (oz HJ).bel).ti.r0).mono ?_;rintro e w' ⟨vv,rfl,hown,hb⟩;exact hK _ _ ⟨za U 2 _,(by rw [zc d1];rfl),(oz HJ).put 2 _ h0 hb (jC hb) (yH hown (oz HJ).sz) jD (fun _ b hq =>jO hown b hq)⟩
  ·clear hlt hif;go_simp;exact hK _ _ ⟨za U 3 _,rfl,(oz HJ).put 3 _ h0 zl (jC zl) rfl jD (zJ rfl)⟩
  ·clear hlt hif;have d3:U 3=.pointer (some ⟨W.heap.size,1,none⟩):=(oz HJ).val 3 (zb hi 3 (by kernel_rfl));have q0:=(oz HF w (oz HJ).bel).bx.cell 1;go_simp;exact hK _ _ ⟨za U 4 _,(by rw [zc d3];rfl),(oz HJ).put 4 _ h0 zl (jC zl) rfl jD (zJ rfl)⟩
  ·clear hlt hif;have d4:U 4=.slice a1 T.co.length c1:=(oz HJ).val 4 (zb hi 4 (by kernel_rfl));go_simp;refine (ZJ T.co (oz HO).n1 a1 c1 w (oz HF w (oz HJ).bel).ti.r1).mono ?_;rintro e w' ⟨vv,rfl,hown,hb⟩;exact hK _ _ ⟨za U 5 _,(by rw [zc d4];rfl),(oz HJ).put 5 _ h0 hb (jC hb) (yH hown (oz HJ).sz) jD (fun _ b hq =>jO hown b hq)⟩
  ·clear hlt hif;go_simp;exact hK _ _ ⟨za U 6 _,rfl,(oz HJ).put 6 _ h0 zl (jC zl) rfl jD (zJ rfl)⟩
  ·clear hlt hif;have d6:U 6=.pointer (some ⟨W.heap.size,2,none⟩):=(oz HJ).val 6 (zb hi 6 (by kernel_rfl));have q0:=(oz HF w (oz HJ).bel).bx.cell 2;go_simp;exact hK _ _ ⟨za U 7 _,(by rw [zc d6];rfl),(oz HJ).put 7 _ h0 zl (jC zl) rfl jD (zJ rfl)⟩
  ·clear hlt hif;have d7:U 7=.slice a2 T.ma.length c2:=(oz HJ).val 7 (zb hi 7 (by kernel_rfl));go_simp;refine (zeh T.ma (oz HO).n2 a2 c2 w (oz HF w (oz HJ).bel).ti.r2).mono ?_;rintro e w' ⟨vv,rfl,hown,hb⟩;exact hK _ _ ⟨za U 8 _,(by rw [zc d7];rfl),(oz HJ).put 8 _ h0 hb (jC hb) (yH hown (oz HJ).sz) jD (fun _ b hq =>jO hown b hq)⟩
  ·clear hlt hif;go_simp;exact hK _ _ ⟨za U 9 _,rfl,(oz HJ).put 9 _ h0 zl (jC zl) rfl jD (zJ rfl)⟩
  ·clear hlt hif;have d9:U 9=.pointer (some ⟨W.heap.size,3,none⟩):=(oz HJ).val 9 (zb hi 9 (by kernel_rfl));have q0:=(oz HF w (oz HJ).bel).bx.cell 3;go_simp;exact hK _ _ ⟨za U 10 _,(by rw [zc d9];rfl),(oz HJ).put 10 _ h0 zl (jC zl) rfl jD (zJ rfl)⟩
  ·clear hlt hif;have d10:U 10=.slice a3 T.pr.length c3:=(oz HJ).val 10 (zb hi 10 (by kernel_rfl));go_simp;refine (zeg T.pr (oz HO).n3 a3 c3 w (oz HF w (oz HJ).bel).ti.r3).mono ?_;rintro e w' ⟨vv,rfl,hown,hb⟩;exact hK _ _ ⟨za U 11 _,(by rw [zc d10];rfl),(oz HJ).put 11 _ h0 hb (jC hb) (yH hown (oz HJ).sz) jD (fun _ b hq =>jO hown b hq)⟩
  ·clear hlt hif;go_simp;exact hK _ _ ⟨za U 12 _,rfl,(oz HJ).put 12 _ h0 zl (jC zl) rfl jD (zJ rfl)⟩
  ·clear hlt hif;have d12:U 12=.pointer (some ⟨W.heap.size,4,none⟩):=(oz HJ).val 12 (zb hi 12 (by kernel_rfl));have q0:=(oz HF w (oz HJ).bel).bx.cell 4;go_simp;exact hK _ _ ⟨za U 13 _,(by rw [zc d12];rfl),(oz HJ).put 13 _ h0 zl (jC zl) rfl jD (zJ rfl)⟩
  ·clear hlt hif;have d13:U 13=.slice a4 T.fo.length c4:=(oz HJ).val 13 (zb hi 13 (by kernel_rfl));go_simp;refine (Q0 T.fo (oz HO).n4 z4 a4 c4 w (oz HF w (oz HJ).bel).ti.r4).mono ?_;rintro e w' ⟨vv,rfl,hown,hb⟩;exact hK _ _ ⟨za U 14 _,(by rw [zc d13];rfl),(oz HJ).put 14 _ h0 hb (jC hb) (yH hown (oz HJ).sz) jD (fun _ b hq =>jO hown b hq)⟩
  ·clear hlt hif;go_simp;exact hK _ _ ⟨za U 15 _,rfl,(oz HJ).put 15 _ h0 zl (jC zl) rfl jD (zJ rfl)⟩
  ·clear hlt hif;have d15:U 15=.pointer (some ⟨W.heap.size,5,none⟩):=(oz HJ).val 15 (zb hi 15 (by kernel_rfl));have q0:=(oz HF w (oz HJ).bel).bx.cell 5;go_simp;exact hK _ _ ⟨za U 16 _,(by rw [zc d15];rfl),(oz HJ).put 16 _ h0 zl (jC zl) rfl jD (zJ rfl)⟩
  ·clear hlt hif;have d16:U 16=.slice a5 T.lk.length c5:=(oz HJ).val 16 (zb hi 16 (by kernel_rfl));go_simp;refine (Q0 T.lk (oz HO).n5 z5 a5 c5 w (oz HF w (oz HJ).bel).ti.r5).mono ?_;rintro e w' ⟨vv,rfl,hown,hb⟩;exact hK _ _ ⟨za U 17 _,(by rw [zc d16];rfl),(oz HJ).put 17 _ h0 hb (jC hb) (yH hown (oz HJ).sz) jD (fun _ b hq =>jO hown b hq)⟩
  ·clear hlt hif;go_simp;exact hK _ _ ⟨za U 18 _,rfl,(oz HJ).put 18 _ h0 zl (jC zl) rfl jD (zJ rfl)⟩
  ·clear hlt hif;have d18:U 18=.pointer (some ⟨W.heap.size,6,none⟩):=(oz HJ).val 18 (zb hi 18 (by kernel_rfl));have q0:=(oz HF w (oz HJ).bel).bx.cell 6;go_simp;exact hK _ _ ⟨za U 19 _,(by rw [zc d18];rfl),(oz HJ).put 19 _ h0 zl (jC zl) rfl jD (zJ rfl)⟩
  ·clear hlt hif;have d19:U 19=.slice a6 T.dr.length c6:=(oz HJ).val 19 (zb hi 19 (by kernel_rfl));go_simp;refine (ZJ T.dr (oz HO).n6 a6 c6 w (oz HF w (oz HJ).bel).ti.r6).mono ?_;rintro e w' ⟨vv,rfl,hown,hb⟩;exact hK _ _ ⟨za U 20 _,(by rw [zc d19];rfl),(oz HJ).put 20 _ h0 hb (jC hb) (yH hown (oz HJ).sz) jD (fun _ b hq =>jO hown b hq)⟩
  ·clear hlt hif;go_simp;exact hK _ _ ⟨za U 21 _,rfl,(oz HJ).put 21 _ h0 zl (jC zl) rfl jD (zJ rfl)⟩
  ·clear hlt hif;have d21:U 21=.pointer (some ⟨W.heap.size,7,none⟩):=(oz HJ).val 21 (zb hi 21 (by kernel_rfl));have q0:=(oz HF w (oz HJ).bel).bx.cell 7;go_simp;exact hK _ _ ⟨za U 22 _,(by rw [zc d21];rfl),(oz HJ).put 22 _ h0 zl (jC zl) rfl jD (zJ rfl)⟩
  ·clear hlt hif;have d22:U 22=.slice a7 T.al.length c7:=(oz HJ).val 22 (zb hi 22 (by kernel_rfl));go_simp;refine (ZJ T.al (oz HO).n7 a7 c7 w (oz HF w (oz HJ).bel).ti.r7).mono ?_;rintro e w' ⟨vv,rfl,hown,hb⟩;exact hK _ _ ⟨za U 23 _,(by rw [zc d22];rfl),(oz HJ).put 23 _ h0 hb (jC hb) (yH hown (oz HJ).sz) jD (fun _ b hq =>jO hown b hq)⟩
  ·clear hlt hif;have hL:=zi5 (oz HJ) (fun i h8 =>by
    obtain rfl | rfl | rfl | rfl | rfl | rfl | rfl | rfl:i=0∨i=1∨i=2∨i=3∨i=4∨i=5∨i=6∨i=7:=by omega
    ·exact zb hi 2 (by kernel_rfl)
    ·exact zb hi 5 (by kernel_rfl)
    ·exact zb hi 8 (by kernel_rfl)
    ·exact zb hi 11 (by kernel_rfl)
    ·exact zb hi 14 (by kernel_rfl)
    ·exact zb hi 17 (by kernel_rfl)
    ·exact zb hi 20 (by kernel_rfl)
    ·exact zb hi 23 (by kernel_rfl)
    )
   obtain ⟨x0,y0,d2⟩:=zQ ((oz HJ).val 2 (zb hi 2 (by kernel_rfl)));obtain ⟨x1,y1,d5⟩:=zQ ((oz HJ).val 5 (zb hi 5 (by kernel_rfl)));obtain ⟨x2,y2,d8⟩:=zQ ((oz HJ).val 8 (zb hi 8 (by kernel_rfl)));obtain ⟨x3,y3,d11⟩:=zQ ((oz HJ).val 11 (zb hi 11 (by kernel_rfl)));obtain ⟨x4,y4,d14⟩:=zQ ((oz HJ).val 14 (zb hi 14 (by kernel_rfl)));obtain ⟨x5,y5,d17⟩:=zQ ((oz HJ).val 17 (zb hi 17 (by kernel_rfl)));obtain ⟨x6,y6,d20⟩:=zQ ((oz HJ).val 20 (zb hi 20 (by kernel_rfl)));obtain ⟨x7,y7,d23⟩:=zQ ((oz HJ).val 23 (zb hi 23 (by kernel_rfl)));rw [d2,d5,d8,d11,d14,d17,d20,d23] at hL;have HL:=kz hL;clear hL;go_simp;exact hK _ _ ⟨za U 24 _,(by rw [zc d2,zc d5,zc d8,zc d11,zc d14,zc d17,zc d20,zc d23];rfl),(oz HJ).put 24 _ h0 zl (jC zl) ⟨x0,y0,x1,y1,x2,y2,x3,y3,x4,y4,x5,y5,x6,y6,x7,y7,rfl,oz HL⟩ jD (zJ rfl)⟩
 ·rintro l a w ⟨V,rfl,hJ⟩ hall;obtain ⟨x0,y0,x1,y1,x2,y2,x3,y3,x4,y4,x5,y5,x6,y6,x7,y7,d24,hL⟩:=hJ.val 24 (hall 24 (by decide) (by decide));have hF1:=oz HF w hJ.bel;have hsz:W.heap.size+2≤w.heap.size:=by have:=hJ.sz;have:=oz HS2;omega
  have g9:=zeS w W.heap.size (.slice x0 T.sc.length y0) (.slice x1 T.co.length y1) (.slice x2 T.ma.length y2) (.slice x3 T.pr.length y3) (.slice x4 T.fo.length y4) (.slice x5 T.lk.length y5) (.slice x6 T.dr.length y6) (.slice x7 T.al.length y7);have H9:Hz (OwN W ((((((((w.setCell ⟨W.heap.size,0,none⟩ (.slice x0 T.sc.length y0)).setCell ⟨W.heap.size,1,none⟩ (.slice x1 T.co.length y1)).setCell ⟨W.heap.size,2,none⟩ (.slice x2 T.ma.length y2)).setCell ⟨W.heap.size,3,none⟩ (.slice x3 T.pr.length y3)).setCell ⟨W.heap.size,4,none⟩ (.slice x4 T.fo.length y4)).setCell ⟨W.heap.size,5,none⟩ (.slice x5 T.lk.length y5)).setCell ⟨W.heap.size,6,none⟩ (.slice x6 T.dr.length y6)).setCell ⟨W.heap.size,7,none⟩ (.slice x7 T.al.length y7)) T us x0 x1 x2 x3 x4 x5 x6 x7 y0 y1 y2 y3 y4 y5 y6 y7):=kz ⟨ziJ hF1.bx (.slice x0 T.sc.length y0) (.slice x1 T.co.length y1) (.slice x2 T.ma.length y2) (.slice x3 T.pr.length y3) (.slice x4 T.fo.length y4) (.slice x5 T.lk.length y5) (.slice x6 T.dr.length y6) (.slice x7 T.al.length y7),by
   have:=hL.kept g9 (fun b e =>by have:=Zo e;have:=oz HS2;omega)
   rwa [oz HS2] at this,hF1.rs.kept g9 (by simp),((oz HB0).trans (hJ.bel.mono (by have:=oz HS2;omega))).grown g9 (by omega) (fun k hk =>by cases hk;exact zD),Nat.le_trans hsz g9.size⟩
  have e0:=hF1.bx.cell 0;have e1:=hF1.bx.cell 1;have e2:=hF1.bx.cell 2;have e3:=hF1.bx.cell 3;have e4:=hF1.bx.cell 4;have e5:=hF1.bx.cell 5;have e6:=hF1.bx.cell 6;have e7:=hF1.bx.cell 7;have f0:=hF1.bx.frozen 0;have f1:=hF1.bx.frozen 1;have f2:=hF1.bx.frozen 2;have f3:=hF1.bx.frozen 3;have f4:=hF1.bx.frozen 4;have f5:=hF1.bx.frozen 5;have f6:=hF1.bx.frozen 6;have f7:=hF1.bx.frozen 7;clear hJ hall hF1 g9 hL hsz;refine Ky rfl (fun K hK =>?_);go_simp;refine hK _ _ ?_;clear hK e0 e1 e2 e3 e4 e5 e6 e7 f0 f1 f2 f3 f4 f5 f6 f7;generalize ((((((((w.setCell ⟨W.heap.size,0,none⟩ (.slice x0 T.sc.length y0)).setCell ⟨W.heap.size,1,none⟩ (.slice x1 T.co.length y1)).setCell ⟨W.heap.size,2,none⟩ (.slice x2 T.ma.length y2)).setCell ⟨W.heap.size,3,none⟩ (.slice x3 T.pr.length y3)).setCell ⟨W.heap.size,4,none⟩ (.slice x4 T.fo.length y4)).setCell ⟨W.heap.size,5,none⟩ (.slice x5 T.lk.length y5)).setCell ⟨W.heap.size,6,none⟩ (.slice x6 T.dr.length y6)).setCell ⟨W.heap.size,7,none⟩ (.slice x7 T.al.length y7))=w9 at *;clear HF HS2 HB0 z4 z5 d24 hmx;have hmx:=zdA
  have k0:=(oz H9).bx.cell 0;rcases Nat.eq_zero_or_pos T.sc.length with h0 | hp
  ·have hsc:T.sc=[]:=List.length_eq_zero_iff.1 h0;have hus:us=[]:=List.length_eq_zero_iff.1 ((oz HT).lu.trans h0);have hn1:¬ ((0:Int) < (T.sc.length:Int)):=by omega
   have hLZ:Lst w9 (W.heap.size+2) ((.slice x0 T.sc.length y0::[])++[.slice x1 T.co.length y1]++[.slice x2 T.ma.length y2]++[.slice x3 T.pr.length y3]++[.slice x4 T.fo.length y4]++[.slice x5 T.lk.length y5]++[.slice x6 T.dr.length y6]++[.slice x7 T.al.length y7]) (Qv T []):=by
    have e:Qv T []=owL T us:=by simp [Qv,owL,hsc,hus]
    rw [e];exact (oz H9).ls
   have HLZ:=kz hLZ;have HSC:=kz h0;clear hLZ hsc hus h0 k0;have g7:=zeS w9 (W.heap.size+1) (.slice x0 T.sc.length y0) (.slice x1 T.co.length y1) (.slice x2 T.ma.length y2) (.slice x3 T.pr.length y3) (.slice x4 T.fo.length y4) (.slice x5 T.lk.length y5) (.slice x6 T.dr.length y6) (.slice x7 T.al.length y7);have b7:=ziJ (oz H9).rs (.slice x0 T.sc.length y0) (.slice x1 T.co.length y1) (.slice x2 T.ma.length y2) (.slice x3 T.pr.length y3) (.slice x4 T.fo.length y4) (.slice x5 T.lk.length y5) (.slice x6 T.dr.length y6) (.slice x7 T.al.length y7);have p0:=((oz H9).bx).cell 0;have p1:=((oz H9).bx).cell 1;have p2:=((oz H9).bx).cell 2;have p3:=((oz H9).bx).cell 3;have p4:=((oz H9).bx).cell 4;have p5:=((oz H9).bx).cell 5;have p6:=((oz H9).bx).cell 6;have p7:=((oz H9).bx).cell 7;have s0:=((oz H9).rs).cell 0;have t0:=((oz H9).rs).frozen 0;have s1:=((oz H9).rs).cell 1;have t1:=((oz H9).rs).frozen 1;have s2:=((oz H9).rs).cell 2;have t2:=((oz H9).rs).frozen 2;have s3:=((oz H9).rs).cell 3;have t3:=((oz H9).rs).frozen 3;have s4:=((oz H9).rs).cell 4;have t4:=((oz H9).rs).frozen 4;have s5:=((oz H9).rs).cell 5;have t5:=((oz H9).rs).frozen 5;have s6:=((oz H9).rs).cell 6;have t6:=((oz H9).rs).frozen 6;have s7:=((oz H9).rs).cell 7;have t7:=((oz H9).rs).frozen 7;have HB7:=kz b7;have HZ:=kz (yB (((oz HLZ).kept g7 (fun b e =>by have:=Zo e;omega)).lower (Nat.le_add_right _ 2)) ((oz H9).bel.grown g7 (oz H9).bel.size (fun k hk =>by cases hk;omega)));clear g7 b7;go_wp2_with fail
   refine wp_loop_rounds 1 ?_;rw [rounds_succ];go_wp2_with fail
   have r0:=(oz HB7).cell 0;have r1:=(oz HB7).cell 1;have r2:=(oz HB7).cell 2;have r3:=(oz HB7).cell 3;have r4:=(oz HB7).cell 4;have r5:=(oz HB7).cell 5;have r6:=(oz HB7).cell 6;have r7:=(oz HB7).cell 7;exact XS (v:=Value.agg #[Value.slice x0 T.sc.length y0,Value.slice x1 T.co.length y1,Value.slice x2 T.ma.length y2,Value.slice x3 T.pr.length y3,Value.slice x4 T.fo.length y4,Value.slice x5 T.lk.length y5,Value.slice x6 T.dr.length y6,Value.slice x7 T.al.length y7]) (by simp [results,Tryz.results85,go_sem,r0,r1,r2,r3,r4,r5,r6,r7]) rfl ⟨_,rfl,⟨_,[],_,_,_,_,_,_,_,rfl,(oz HSC).symm,(oz HZ).1⟩,(oz HZ).2⟩
  ·obtain ⟨g,cap,e0,hlo,hg⟩:=zdc ((oz H9).ls.own 0 _ _ rfl rfl) hp;injection e0 with e1 e2 e3;subst e1 e3;clear e2;have H0:Hz (OuSt w9 w9 (W.heap.size+2) g y0 T.sc us 0 us):=kz ⟨(oz H9).ls.own 0 _ _ rfl rfl,(oz HT).lu,fun _ _ =>rfl,fun j x s hj =>absurd hj (Nat.not_lt_zero j),fun j k x y hj =>absurd hj (Nat.not_lt_zero j),World.grownBy.refl _ _⟩;have HG:=kz (yB hlo hg);have hlen6:T.sc.length≤1000000:=(oz HO).n0;clear hlo hg hp;go_wp2_with fail
   go_loopw [3,4,33] (fun _ _ s33 wr => ∃ (k:Nat) (cu:List Value),k≤T.sc.length∧s33=.int .i64 k∧Hz (OuSt w9 wr (W.heap.size+2) g y0 T.sc us k cu)) (fun _ _ s33 _ =>T.sc.length - (intOf s33).toNat)
   case atStart =>exact ⟨0,us,Zn _,rfl,H0⟩
   case round =>
    obtain ⟨k,cu,hk,rfl,HS⟩:=hrel;clear H0 k0;have hBW:Below W.heap.size W wr:=(oz H9).bel.grown (oz HS).gr (oz H9).bel.size (fun b hb =>by have:=Zo hb;have:=(oz HG).1;omega);have hBP:=(oz H9).bx.kept (oz HS).gr (fun e =>by have:=Zo e;have:=(oz HG).1;omega);by_cases hkn:k < T.sc.length
    ·obtain ⟨s,hs⟩:∃ s,T.sc[k]?=some s:=⟨_,qR hkn⟩;obtain ⟨u,hu⟩:∃ u,us[k]?=some u:=⟨_,qR (by have:=(oz HT).lu;omega)⟩;obtain ⟨b,d,rfl,hrc⟩:=(oz HT).rs k s u hs hu;have hcu:cu[k]?=some (.slice b s.2.length d):=((oz HS).old k zD).trans hu;have hcs:=Je (oz HS).row;have n0:=Qp T.sc cu (oz HS).len k s hs;have n1:(jE T.sc cu)[k*2+1]?=some (.slice b s.2.length d):=by rw [show k*2+1=2*k+1 by omega,Zm _ _ (oz HS).len];exact hcu
     have kc0:wr.cell? ⟨g,k*2,none⟩=some (.string s.1):=hcs _ _ n0;have kc1:wr.cell? ⟨g,k*2+1,none⟩=some (.slice b s.2.length d):=hcs _ _ n1;have hk1:(k:Int) < (T.sc.length:Int):=by omega
     have hk2:=Zp k
     have HX:=kz (yB hs (yB (z0 s (YH hs)) (yB ((oz HO).z0 s (YH hs)).2 (yB n0 n1))));have hbd:Below wr.heap.size wr (wr.alloc (.cells #[.string s.1,.slice b s.2.length d] 96)).drew:=((Below.refl _ wr).alloc zD _).trans ⟨rfl,rfl,rfl,zD,fun _ _ =>rfl⟩;have bX:Blk (wr.alloc (.cells #[.string s.1,.slice b s.2.length d] 96)).drew wr.heap.size #[.string s.1,.slice b s.2.length d] 96:=Blk.new wr #[.string s.1,.slice b s.2.length d] 96;have hP1:=hBP.cell 0;have hPl:W.heap.size < wr.heap.size:=hBP.lt;have HF:Hz (∀ w2,Below (wr.alloc (.cells #[.string s.1,.slice b s.2.length d] 96)).drew.heap.size (wr.alloc (.cells #[.string s.1,.slice b s.2.length d] 96)).drew w2→Blk w2 wr.heap.size #[.string s.1,.slice b s.2.length d] 96∧w2.cell? ⟨W.heap.size,0,none⟩=some (.slice (some ⟨g,0,none⟩) T.sc.length y0)∧RowC w2 w2.heap.size b (zM s.2)∧Below wr.heap.size wr w2):=kz (fun w2 h2 =>by
      have h3:Below wr.heap.size wr w2:=hbd.trans (h2.mono hbd.size);exact ⟨bX.below h2 bX.lt,(h3.cell (p:=⟨W.heap.size,0,none⟩) hPl).trans hP1,hrc.below (hBW.trans (h3.mono hBW.size)) (Nat.le_trans hBW.size h3.size),h3⟩)
     obtain ⟨s1,s2⟩:=s;dsimp only at kc0 kc1 HX HF hcu;have HZS:Hz ((wr.alloc (.cells #[.string s1,.slice b s2.length d] 96)).heap.size=wr.heap.size+1):=kz (by simp);clear hs hu hcs n0 n1 hbd bX hBP hP1 hPl hrc hBW hcu;go_wp2_with fail
     generalize (wr.alloc _)=wb at *;refine zn hmx 11 (by decide) (by kernel_rfl) (by kernel_rfl) (fun l a w => ∃ U:Nat→Value,a = { tmps:=#[.agg #[.slice a0 T.sc.length c0,.slice a1 T.co.length c1,.slice a2 T.ma.length c2,.slice a3 T.pr.length c3,.slice a4 T.fo.length c4,.slice a5 T.lk.length c5,.slice a6 T.dr.length c6,.slice a7 T.al.length c7],.pointer (some ⟨W.heap.size,0,none⟩),.pointer (some ⟨W.heap.size+1,0,none⟩),.int .i64 (k:Nat),.pointer (some ⟨wr.heap.size,0,none⟩),V 0,V 1,V 2,V 3,V 4,V 5,V 6,V 7,V 8,V 9,V 10,V 11,V 12,V 13,V 14,V 15,V 16,V 17,V 18,V 19,V 20,V 21,V 22,V 23,.agg #[.slice (some ⟨g,0,none⟩) T.sc.length y0,.slice x1 T.co.length y1,.slice x2 T.ma.length y2,.slice x3 T.pr.length y3,.slice x4 T.fo.length y4,.slice x5 T.lk.length y5,.slice x6 T.dr.length y6,.slice x7 T.al.length y7],.pointer (some ⟨W.heap.size,0,none⟩),.slice (some ⟨g,0,none⟩) T.sc.length y0,.int .i64 (T.sc.length:Nat),.int .i64 (k:Nat),.bool true,.int .i64 (k:Nat),.pointer (some ⟨g,k*2,none⟩),.agg #[.string s1,.slice b s2.length d],U 0,U 1,U 2,U 3,U 4,U 5,U 6,U 7,U 8,U 9,U 10,u49,undef],defers := [] }∧RgJ (wb.drew) (wb.drew.heap.size) (osD W.heap.size wr.heap.size wb.drew.heap.size g T.sc.length y0 k s1 s2 b d) zkS l U w) ⟨fun x =>match x with | 0 =>u38 | 1 =>u39 | 2 =>u40 | 3 =>u41 | 4 =>u42 | 5 =>u43 | 6 =>u44 | 7 =>u45 | 8 =>u46 | 9 =>u47 | _ =>u48,rfl,RgJ.start _ _ zD⟩ ?_ ?_
     ·rintro l a w i ⟨U,rfl,hJ⟩ hl hi hif;have h0:=(mem_ready.1 hi).1;have hlt:=Xo hl h0;have HJ:=kz hJ;clear hJ hl
      replace hlt:i < 12:=hlt
      obtain rfl | rfl | rfl | rfl | rfl | rfl | rfl | rfl | rfl | rfl | rfl:i=0∨i=1∨i=2∨i=3∨i=4∨i=5∨i=6∨i=7∨i=8∨i=9∨i=10:=by omega
      any_goals refine Ky rfl (fun K hK =>?_)
      ·clear hlt hif;go_simp;exact hK _ _ ⟨za U 0 _,rfl,(oz HJ).put 0 _ h0 zl (YX zl) rfl YY (zJ rfl)⟩
      ·clear hlt hif;have d0:U 0=.pointer (some ⟨W.heap.size,0,none⟩):=(oz HJ).val 0 (zb hi 0 (by kernel_rfl));have q0:=(oz HF w (oz HJ).bel).2.1;go_simp;exact hK _ _ ⟨za U 1 _,(by rw [zc d0];rfl),(oz HJ).put 1 _ h0 zl (YX zl) rfl YY (zJ rfl)⟩
      ·clear hlt hif;go_simp;exact hK _ _ ⟨za U 2 _,rfl,(oz HJ).put 2 _ h0 zl (YX zl) rfl YY (zJ rfl)⟩
      ·clear hlt hif;go_simp;exact hK _ _ ⟨za U 3 _,rfl,(oz HJ).put 3 _ h0 zl (YX zl) rfl YY (zJ rfl)⟩
      ·clear hlt hif;have d3:U 3=.pointer (some ⟨wr.heap.size,0,none⟩):=(oz HJ).val 3 (zb hi 3 (by kernel_rfl));have q0:=(oz HF w (oz HJ).bel).1.cell 0;go_simp;exact hK _ _ ⟨za U 4 _,(by rw [zc d3];rfl),(oz HJ).put 4 _ h0 zl (YX zl) rfl YY (zJ rfl)⟩
      ·clear hlt hif;have d4:U 4=.string s1:=(oz HJ).val 4 (zb hi 4 (by kernel_rfl));go_simp;refine (K8 s1 w (oz HX).2.1).mono ?_;rintro e w' ⟨rfl,hb⟩;exact hK _ _ ⟨za U 5 _,(by rw [zc d4];rfl),(oz HJ).put 5 _ h0 hb (YX hb) rfl YY (zJ rfl)⟩
      ·clear hlt hif;go_simp;exact hK _ _ ⟨za U 6 _,rfl,(oz HJ).put 6 _ h0 zl (YX zl) rfl YY (zJ rfl)⟩
      ·clear hlt hif;have d6:U 6=.pointer (some ⟨wr.heap.size,1,none⟩):=(oz HJ).val 6 (zb hi 6 (by kernel_rfl));have q1:=(oz HF w (oz HJ).bel).1.cell 1;go_simp;exact hK _ _ ⟨za U 7 _,(by rw [zc d6];rfl),(oz HJ).put 7 _ h0 zl (YX zl) rfl YY (zJ rfl)⟩
      ·clear hlt hif;have d7:U 7=.slice b s2.length d:=(oz HJ).val 7 (zb hi 7 (by kernel_rfl));go_simp;refine (ZJ s2 (oz HX).2.2.1 b d w (oz HF w (oz HJ).bel).2.2.1).mono ?_;rintro e w' ⟨vv,rfl,hown,hb⟩;obtain ⟨p,q,rfl⟩:=zQ hown;exact hK _ _ ⟨za U 8 _,(by rw [zc d7];rfl),(oz HJ).put 8 _ h0 hb (YX hb) ⟨p,q,rfl,yH hown (oz HJ).sz⟩ YY (zJ rfl)⟩
      ·clear hlt hif;have d5:U 5=.string s1:=(oz HJ).val 5 (zb hi 5 (by kernel_rfl));obtain ⟨p8,q8,d8,h8⟩:=(oz HJ).val 8 (zb hi 8 (by kernel_rfl));go_simp;exact hK _ _ ⟨za U 9 _,(by rw [zc d5,zc d8];rfl),(oz HJ).put 9 _ h0 zl (YX zl) ⟨p8,q8,rfl,h8⟩ YY (zJ rfl)⟩
      ·clear hlt hif;have d1:U 1=.slice (some ⟨g,0,none⟩) T.sc.length y0:=(oz HJ).val 1 (zb hi 1 (by kernel_rfl));have d2:U 2=.int .i64 (k:Nat):=(oz HJ).val 2 (zb hi 2 (by kernel_rfl));go_simp;exact hK _ _ ⟨za U 10 _,(by rw [zc d1,zc d2];rfl),(oz HJ).put 10 _ h0 zl (YX zl) rfl YY (zJ rfl)⟩
     ·rintro l a w ⟨U,rfl,hJ⟩ hall;obtain ⟨p,q,d9,hown⟩:=hJ.val 9 (hall 9 (by decide) (by decide));have d10:U 10=.pointer (some ⟨g,k*2,none⟩):=hJ.val 10 (hall 10 (by decide) (by decide));have hb:=(oz HF w hJ.bel).2.2.2;have hrow:=zu (oz HS).row hb;have hcs:=Je hrow;have cc0:w.cell? ⟨g,k*2,none⟩=some (.string s1):=hcs _ _ (oz HX).2.2.2.1;have cc1:w.cell? ⟨g,k*2+1,none⟩=some (.slice b s2.length d):=hcs _ _ (oz HX).2.2.2.2;have ff0:w.frozen? ⟨g,k*2,none⟩=false:=QM hrow _;have ff1:w.frozen? ⟨g,k*2+1,none⟩=false:=QM hrow _;have hse:w.setCell ⟨g,k*2,none⟩ (.string s1)=w:=zkh hrow (oz HX).2.2.2.1;have HN:=kz ((oz HS).next (oz HX).1 (yH hown (by rw [show (wb.drew).heap.size=wb.heap.size from rfl,oz HZS];omega)) hb);clear hJ hall hb hrow hcs hown;refine Ky rfl (fun K hK =>?_);go_simp;refine hK _ _ ?_;clear hK;go_wp2_with fail
      exact ⟨⟨k+1,_,by omega,by go_num,HN⟩,by simp [intOf];omega⟩
    ·have hk1:¬ (k:Int) < (T.sc.length:Int):=by omega
     obtain rfl:k=T.sc.length:=by omega
     have hBR:=(oz H9).rs.kept (oz HS).gr (fun e =>by have:=Zo e;have:=(oz HG).1;omega);have hLL:=zi3 (oz HS) (oz H9).sz (oz H9).ls;have HLZ:Hz (Lst wr (W.heap.size+2) ((.slice (some ⟨g,0,none⟩) T.sc.length y0::cu)++[.slice x1 T.co.length y1]++[.slice x2 T.ma.length y2]++[.slice x3 T.pr.length y3]++[.slice x4 T.fo.length y4]++[.slice x5 T.lk.length y5]++[.slice x6 T.dr.length y6]++[.slice x7 T.al.length y7]) (Qv T cu)):=kz (by simpa only [List.append_assoc,List.cons_append,List.nil_append] using hLL);have HBP:=kz hBP;have HBR:=kz hBR;have HBW:=kz hBW;clear hBP hBR hBW hLL;have g7:=zeS wr (W.heap.size+1) (.slice (some ⟨g,0,none⟩) T.sc.length y0) (.slice x1 T.co.length y1) (.slice x2 T.ma.length y2) (.slice x3 T.pr.length y3) (.slice x4 T.fo.length y4) (.slice x5 T.lk.length y5) (.slice x6 T.dr.length y6) (.slice x7 T.al.length y7);have b7:=ziJ (oz HBR) (.slice (some ⟨g,0,none⟩) T.sc.length y0) (.slice x1 T.co.length y1) (.slice x2 T.ma.length y2) (.slice x3 T.pr.length y3) (.slice x4 T.fo.length y4) (.slice x5 T.lk.length y5) (.slice x6 T.dr.length y6) (.slice x7 T.al.length y7);have p0:=((oz HBP)).cell 0;have p1:=((oz HBP)).cell 1;have p2:=((oz HBP)).cell 2;have p3:=((oz HBP)).cell 3;have p4:=((oz HBP)).cell 4;have p5:=((oz HBP)).cell 5;have p6:=((oz HBP)).cell 6;have p7:=((oz HBP)).cell 7;have s0:=((oz HBR)).cell 0;have t0:=((oz HBR)).frozen 0;have s1:=((oz HBR)).cell 1;have t1:=((oz HBR)).frozen 1;have s2:=((oz HBR)).cell 2;have t2:=((oz HBR)).frozen 2;have s3:=((oz HBR)).cell 3;have t3:=((oz HBR)).frozen 3;have s4:=((oz HBR)).cell 4;have t4:=((oz HBR)).frozen 4;have s5:=((oz HBR)).cell 5;have t5:=((oz HBR)).frozen 5;have s6:=((oz HBR)).cell 6;have t6:=((oz HBR)).frozen 6;have s7:=((oz HBR)).cell 7;have t7:=((oz HBR)).frozen 7;have HB7:=kz b7;have HZ:=kz (yB (((oz HLZ).kept g7 (fun b e =>by have:=Zo e;omega)).lower (Nat.le_add_right _ 2)) ((oz HBW).grown g7 (oz HBW).size (fun k hk =>by cases hk;omega)));clear g7 b7;go_wp2_with fail
     have r0:=(oz HB7).cell 0;have r1:=(oz HB7).cell 1;have r2:=(oz HB7).cell 2;have r3:=(oz HB7).cell 3;have r4:=(oz HB7).cell 4;have r5:=(oz HB7).cell 5;have r6:=(oz HB7).cell 6;have r7:=(oz HB7).cell 7;exact XS (v:=Value.agg #[Value.slice (some ⟨g,0,none⟩) T.sc.length y0,Value.slice x1 T.co.length y1,Value.slice x2 T.ma.length y2,Value.slice x3 T.pr.length y3,Value.slice x4 T.fo.length y4,Value.slice x5 T.lk.length y5,Value.slice x6 T.dr.length y6,Value.slice x7 T.al.length y7]) (by simp [results,Tryz.results85,go_sem,r0,r1,r2,r3,r4,r5,r6,r7]) rfl ⟨_,rfl,⟨_,cu,_,_,_,_,_,_,_,rfl,(oz HS).len,(oz HZ).1⟩,(oz HZ).2⟩
end Go.Proofs.YthchopdfmchpkaaGreat
