/- Texts of this claim, one behind the other. -/
import Derived.Test.YthchopdfmchpkaaGreatM27
namespace Go.Proofs.YthchopdfmchpkaaGreat
set_option linter.unusedVariables false
section
open Go.RowKit Go.Shelf
set_option maxRecDepth 100000
set_option maxHeartbeats 8000000
theorem J7 {B:Nat} {a w:World} (h:Below B a w) (n:Nat):Below B a (w.drewN n):=h.trans ⟨rfl,rfl,rfl,zD,fun _ _ =>rfl⟩
def zkB (W:World) (a:Option Addr) (zs:List Int):Prop := ∀ k z,zs[k]?=some z→∃ g,a=some ⟨g,0,none⟩∧W.cell? ⟨g,k,none⟩=some (Value.int .i64 z)
theorem Yh {W:World} {lo:Nat} {v:Value} {zs:List Int} (h:W.ownsRow lo 3 1 v zs.length (QA zs)):∃ a cap,v=.slice a zs.length cap∧zkB W a zs∧zs.length≤cap∧cap≤maxLen:=by
 rcases h.2 with ⟨rfl,h0⟩ | ⟨g,cap,cur,rfl,hb,hg,h1,h2,h3,h4⟩
 ·obtain rfl:zs=[]:=List.eq_nil_of_length_eq_zero h0;exact ⟨none,0,rfl,fun k z hz =>by simp at hz,by simp,by simp⟩
 ·refine ⟨_,cap,rfl,fun k z hz =>⟨g,rfl, ?_⟩,h1,h2⟩;have:=h.cells (g:=g) rfl k (Value.int .i64 z) (by simp [QA,hz])
  rwa [Xb,Nat.zero_add] at this
theorem zfG (a b:Option Addr) (ca cb:Nat) (zs:List Int) (hz:zs.length≤9223372036854775807) (w:World) (ha:zkB w a zs) (hb:zkB w b zs) :
  Calls Tryz.prog 11 #[.slice a zs.length ca,.slice b zs.length cb] w fun e w' =>e=.returned (.bool true)∧Below w.heap.size w w':=by
 have HA:=kz ha;have HB:=kz hb;clear ha hb;have hne:(((zs.length:Nat):Int) != ((zs.length:Nat):Int))=false:=by simp
 go_enter Tryz.func11,Tryz.ntmps11;go_wp2;go_loopw [5] (fun i wr => ∃ k:Nat,k≤zs.length∧i=.int .i64 k∧∃ q,wr=w.drewN q) (fun i _ =>zs.length - (intOf i).toNat)
 case atStart =>exact ⟨0,by omega,rfl,0,rfl⟩
 case round =>
  obtain ⟨k,hk,rfl,q,rfl⟩:=hrel;by_cases hkn:k < zs.length
  ·obtain ⟨z,hzk⟩:∃ z,zs[k]?=some z:=⟨_,qR hkn⟩;obtain ⟨g,rfl,c0⟩:=oz HA k z hzk;obtain ⟨g2,rfl,c1⟩:=oz HB k z hzk;have hk1:(k:Int) < (zs.length:Int):=by omega
   have hk2:=Zp k
   have hzz:(z != z)=false:=by simp
   clear hzk;go_wp2
   go_quiet (fail)
   go_wp2
   go_roundw
   case rel =>exact ⟨k+1,by omega,by go_num,_,rfl⟩
   case measure =>simp [intOf];omega
  ·have hk1:¬ (k:Int) < (zs.length:Int):=by omega
   go_wp2;go_ret;exact ⟨rfl,J7 zl _⟩
theorem Jb (lo:Nat) (v c:Value) (zs:List Int) (w:World) (hv:w.ownsRow lo 3 1 v zs.length (QA zs)) (hc:w.ownsRow lo 3 1 c zs.length (QA zs)) :
  Calls Tryz.prog 11 #[v,c] w fun e w' =>e=.returned (.bool true)∧Below w.heap.size w w':=by
 obtain ⟨a,ca,rfl,ha,h1,h2⟩:=Yh hv;obtain ⟨b,cb,rfl,hb,_,_⟩:=Yh hc;exact zfG a b ca cb zs (by unfold maxLen at h2;omega) w ha hb
set_option maxRecDepth 100000
set_option maxHeartbeats 8000000
theorem zit:(Tryz.prog.info? 35).map (fun i =>(i.zero,i.size,i.bytes))=some (some (.slice none 0 0),1,24):=by kernel_rfl
theorem ziu:(Tryz.prog.info? 3).map (fun i =>(i.zero,i.size,i.bytes))=some (some (.int .i64 0),1,8):=by kernel_rfl
theorem zj6 {W W2:World} {B lo:Nat} {vs cs:List Value} {lv wv u:Value} {h:Int} {g o cap:Nat} {tmp:Obj} (b:BkZ W B lo vs cs lv wv h) (hs:SlAt W2 lo 35 (.slice (some ⟨g,o,none⟩) (vs.length+1) cap) (vs++[u])) (hg:(W.alloc tmp).grownBy W2 lv.ownBlock) (hat:lv.ownBlock=some g∨W.heap.size+1≤g) (hlo:lo≤W.heap.size) :
  Blk W2 B #[lv,wv,.int .i64 h,.bool false] 57∧BkZ (W2.setCell ⟨B,0,none⟩ (.slice (some ⟨g,o,none⟩) (vs.length+1) cap)) B lo (vs++[u]) cs (.slice (some ⟨g,o,none⟩) (vs.length+1) cap) wv h∧KeepsZ B lo W (W2.setCell ⟨B,0,none⟩ (.slice (some ⟨g,o,none⟩) (vs.length+1) cap)):=by
 obtain ⟨h1,h2⟩:=(b.alloc tmp).app1 hs hg (by simpa using hat);exact ⟨h1,h2,(((KeepsZ.refl B lo W).alloc hlo tmp).sl (b.alloc tmp).ls (by simp;omega) hg).set b.lo_le 0 _⟩
theorem zis {W w1:World} {B lo:Nat} {vs cs:List Value} {lv wv:Value} {h:Int} (b:BkZ W B lo vs cs lv wv h) (hg:W.drew.grownBy w1 none):BkZ w1 B lo vs cs lv wv h:=by
 have hg':W.grownBy w1 none:=⟨hg.os,hg.tape,hg.output,hg.size,hg.block⟩;exact ⟨b.blk.kept hg' (by simp),b.ls.kept hg' (by cases lv.ownBlock <;> simp),b.ws.kept hg' (by cases wv.ownBlock <;> simp),b.ap,b.lo_le⟩
theorem QO {W w1:World} {B lo:Nat} (hlo:lo≤W.heap.size) (hg:W.drew.grownBy w1 none):KeepsZ B lo W w1:=by
 have hg':W.grownBy w1 none:=⟨hg.os,hg.tape,hg.output,hg.size,hg.block⟩;exact ⟨fun b cur t hb _ _ =>hb.kept hg' (by simp),(Below.refl lo W).grown hg' hlo (fun k e =>by cases e),fun k o hk _ =>(hg'.block k (zeI.1 hk).1 (by simp)).trans hk⟩
theorem zj5 {W W2:World} {B lo:Nat} {vs cs:List Value} {lv wv u:Value} {h:Int} {g o cap:Nat} {tmp:Obj} (b:BkZ W B lo vs cs lv wv h) (hs:SlAt W2 lo 35 (.slice (some ⟨g,o,none⟩) (cs.length+1) cap) (cs++[u])) (hg:(W.alloc tmp).grownBy W2 wv.ownBlock) (hat:wv.ownBlock=some g∨W.heap.size+1≤g) (hlo:lo≤W.heap.size) :
  Blk W2 B #[lv,wv,.int .i64 h,.bool false] 57∧BkZ (W2.setCell ⟨B,1,none⟩ (.slice (some ⟨g,o,none⟩) (cs.length+1) cap)) B lo vs (cs++[u]) lv (.slice (some ⟨g,o,none⟩) (cs.length+1) cap) h∧KeepsZ B lo W (W2.setCell ⟨B,1,none⟩ (.slice (some ⟨g,o,none⟩) (cs.length+1) cap)):=by
 obtain ⟨h1,h2⟩:=(b.alloc tmp).app2 hs hg (by simpa using hat);exact ⟨h1,h2,(((KeepsZ.refl B lo W).alloc hlo tmp).sl (b.alloc tmp).ws (by simp;omega) hg).set b.lo_le 1 _⟩
def KR (W:World) (p:Addr):Nat:=match W.cell? p with
 | some (.slice _ n _) =>n
 | _ =>0
theorem Kf {W W':World} {B lo:Nat} {its:List ItZ} {lv wv lv' wv':Value} {h h':Int} {vs cs:List Value} {v c:Value} {zs:List Int} (b:BookZ W B lo its lv wv h) (hvs:vs=its.map ItZ.v) (hcs:cs=its.map ItZ.c)
  (hdis:∀ it ∈ its,it.v.ownBlock=none∨it.v.ownBlock≠v.ownBlock) (hrow:W.ownsRow lo 3 1 v zs.length (QA zs)) (hc:W'.ownsRow lo 3 1 c zs.length (QA zs))
  (hb:BkZ W' B lo (vs++[v]) (cs++[c]) lv' wv' h') (hk:KeepsZ B lo W W'):BookZ W' B lo (its++[⟨v,c,zs⟩]) lv' wv' h':=by
 subst hvs;subst hcs;refine ⟨by simpa using hb,fun it hi =>?_, ?_⟩
 ·rcases List.mem_append.1 hi with hi | hi
  ·exact (b.own it hi).kept hk b.bk.blk
  ·simp at hi;subst hi;exact ⟨hk.own b.bk.blk hrow,hc⟩
 ·rw [List.pairwise_append];refine ⟨b.dis,by simp,fun x hx y hy =>?_⟩;simp at hy;subst hy;exact hdis x hx
theorem ZX {wr w':World} {B lo:Nat} {vs cs:List Value} {lv wv u x:Value} {h:Int} {p q:Addr} (b:BkZ wr B lo vs cs lv wv h) (hb:Below wr.drew.heap.size wr.drew w') (hp:wr.cell? p=some u) (hq:wr.cell? q=some x) :
  w'.cell? ⟨B,0,none⟩=some lv∧w'.cell? ⟨B,1,none⟩=some wv∧w'.cell? ⟨B,3,none⟩=some (.bool false)∧w'.frozen? ⟨B,3,none⟩=false∧w'.cell? p=some u∧w'.cell? q=some x:=by
 have hb':Below wr.heap.size wr w':=⟨hb.os,hb.tape,hb.output,hb.size,hb.block⟩;have k:=b.below hb';exact ⟨k.blk.cell 0,k.blk.cell 1,k.blk.cell 3,k.blk.frozen 3,(hb'.cell (YG hp)).trans hp,(hb'.cell (YG hq)).trans hq⟩
theorem SlAt.at {W:World} {lo:Nat} {E:TypeId} {g o n cap:Nat} {us:List Value} (h:SlAt W lo E (.slice (some ⟨g,o,none⟩) n cap) us) (j:Nat) {u:Value} (hj:us[j]?=some u):W.cell? ⟨g,o+j,none⟩=some u:=by
 obtain ⟨g',o',cap',e,_,_,hc⟩:=h.form (by have:=(Ze.1 hj).1;omega);cases e
 exact hc j u hj
theorem JM {wr w':World} {B lo:Nat} {vs cs:List Value} {lv wv:Value} {h:Int} (b:BkZ wr B lo vs cs lv wv h) (hlo:lo≤wr.heap.size) (hb:Below wr.drew.heap.size wr.drew w'):BkZ (w'.setCell ⟨B,3,none⟩ (.bool false)) B lo vs cs lv wv h∧KeepsZ B lo wr (w'.setCell ⟨B,3,none⟩ (.bool false)):=by
 have hb':Below wr.heap.size wr w':=⟨hb.os,hb.tape,hb.output,hb.size,hb.block⟩;exact ⟨(b.below hb').good,((KeepsZ.refl B lo wr).below hlo hb').set b.lo_le 3 _⟩
theorem zbn {W wr Wh:World} {B lo:Nat} {it:ItZ} {t:List ItZ} {lv wv:Value} {h h'':Int} {gl ol cl gw ow cw n m:Nat} (b:BookZ wr B lo (it::t) lv wv h) (hk:KeepsZ B lo W wr)
  (b5:BkZ Wh B lo ((it::t).map ItZ.v) ((it::t).map ItZ.c) (.slice (some ⟨gl,ol,none⟩) n cl) (.slice (some ⟨gw,ow,none⟩) m cw) h'') (k6:KeepsZ B lo wr Wh) :
  BookZ ((Wh.setCell ⟨B,0,none⟩ (.slice (some ⟨gl,ol+1,none⟩) t.length (cl - 1))).setCell ⟨B,1,none⟩ (.slice (some ⟨gw,ow+1,none⟩) t.length (cw - 1))) B lo t (.slice (some ⟨gl,ol+1,none⟩) t.length (cl - 1)) (.slice (some ⟨gw,ow+1,none⟩) t.length (cw - 1)) h'' ∧
  KeepsZ B lo W ((Wh.setCell ⟨B,0,none⟩ (.slice (some ⟨gl,ol+1,none⟩) t.length (cl - 1))).setCell ⟨B,1,none⟩ (.slice (some ⟨gw,ow+1,none⟩) t.length (cw - 1))) ∧
  KR ((Wh.setCell ⟨B,0,none⟩ (.slice (some ⟨gl,ol+1,none⟩) t.length (cl - 1))).setCell ⟨B,1,none⟩ (.slice (some ⟨gw,ow+1,none⟩) t.length (cw - 1))) ⟨B,0,none⟩=t.length:=by
 have b6:=b5.tail1;have b7:=b6.tail2;simp only [List.length_map] at b6 b7;have kk:=(k6.set b5.lo_le 0 (.slice (some ⟨gl,ol+1,none⟩) t.length (cl - 1))).set b5.lo_le 1 (.slice (some ⟨gw,ow+1,none⟩) t.length (cw - 1));refine ⟨⟨b7,fun x hx =>(b.own x (by simp [hx])).kept kk b.bk.blk,(List.pairwise_cons.1 b.dis).2⟩,hk.trans kk, ?_⟩;unfold KR;rw [b7.blk.cell 0];rfl
theorem zec (W:World) (B lo:Nat) (its:List ItZ) (lv wv:Value) (h:Int) (gv cap:Nat) (zs:List Int) (hn:0 < zs.length) (hdis:∀ it ∈ its,it.v.ownBlock=none∨it.v.ownBlock≠Value.ownBlock (.slice (some ⟨gv,0,none⟩) zs.length cap)) (hrow:W.ownsRow lo 3 1 (.slice (some ⟨gv,0,none⟩) zs.length cap) zs.length (QA zs)) (hby:zs.length*8≤140737488355328) (hmx:zs.length≤maxLen) (b:BookZ W B lo its lv wv h) (hlo:lo≤W.heap.size) (hl:its.length≤1000):Calls Tryz.prog 21 #[.pointer (some ⟨B,0,none⟩),.slice (some ⟨gv,0,none⟩) zs.length cap] W fun e W' =>(∃ r,e=.returned r)∧(∃ t lv' wv' h',t≠[]∧(∀ it ∈ t,it ∈ its∨it.v=.slice (some ⟨gv,0,none⟩) zs.length cap)∧t.length≤its.length+1∧BookZ W' B lo t lv' wv' h')∧KeepsZ B lo W W':=by
 obtain ⟨vs,hvs⟩:∃ vs,vs=its.map ItZ.v:=⟨_,rfl⟩;obtain ⟨cs,hcs⟩:∃ cs,cs=its.map ItZ.c:=⟨_,rfl⟩;have hlv:vs.length≤1000:=by rw [hvs,List.length_map];exact hl
 have hl2:cs.length≤1000:=by rw [hcs,List.length_map];exact hl
 have HBOOK:=kz b;have b:=b.bk;rw [← hvs, ← hcs] at b;have HVS:=kz hvs;have HCS:=kz hcs;clear hvs hcs;have c0:=b.blk.cell 0;have c1:=b.blk.cell 1;have f0:=b.blk.frozen 0;have HBK:=kz b;clear b;obtain ⟨i0,hi,hz0,hz1,hz2⟩:=info_parts zit;have HI:=kz (yB hi (yB hz0 (yB hz1 hz2)));clear hi hz0 hz1 hz2;go_enter Tryz.func21,Tryz.ntmps21;go_wp2_with (at_builtin;refine Y4 _ rfl _ _ 55 rfl lo 35 i0 (.slice none 0 0) 24 Tryz.underlying55 (oz HI).1 (oz HI).2.1 (oz HI).2.2.1 (oz HI).2.2.2 rfl lv vs rfl ((oz HBK).ls.alloc _) ⟨W.heap.size,0,none⟩ 1 (.slice (some ⟨gv,0,none⟩) zs.length cap) rfl ((Blk.new W _ 35).cell 0) rfl (by unfold maxLen;omega) (by omega) (by simp;omega) ?_)
 intro g o cap' W2 hs hg hat;obtain ⟨hB1,hbk1,hk1⟩:=zj6 (oz HBK) hs hg hat hlo;have d0:=hB1.cell 0;have d1:=hB1.frozen 0;have HK1:=kz hk1;have HB1:=kz hbk1;clear hs hg hat hB1 hk1 hbk1 c0 c1 f0;obtain ⟨iE,hi,hz0,hz1,hz2⟩:=info_parts ziu;have HIE:=kz (yB hi (yB hz0 (yB hz1 hz2)));have hrow1:=(oz HK1).own (oz HBK).blk hrow;have HROW0:=kz hrow;have hlo1:lo≤(W2.setCell ⟨B,0,none⟩ (.slice (some ⟨g,o,none⟩) (vs.length+1) cap')).heap.size:=(by have:=(oz HK1).2.1.size;omega);clear hi hz0 hz1 hz2 hrow;go_wp2;generalize W2.setCell ⟨B,0,none⟩ (.slice (some ⟨g,o,none⟩) (vs.length+1) cap')=Wb at *;have e1:=(oz HB1).blk.cell 1;have e2:=(oz HB1).blk.frozen 1;have HROW:=kz hrow1;have hmx2:Tryz.prog.follows .mixedOrders=true:=by kernel_rfl
 clear d0 d1 hrow1
 rename_i K1 hK1
 have key:∀ (Wc:World) (a2:Act) (c:Value) (lv2 wv2:Value),(∃ U:Nat→Value,a2 = { tmps:=#[.pointer (some ⟨B,0,none⟩),.slice (some ⟨gv,0,none⟩) zs.length cap,U 2,U 3,U 4,U 5,U 6,U 7,U 8,U 9,U 10,U 11,U 12,U 13,U 14,U 15,U 16,U 17,U 18,U 19,U 20,U 21,U 22,U 23,U 24,U 25,U 26,U 27,U 28,U 29,U 30,U 31,U 32,U 33,U 34,U 35,U 36,U 37,U 38,U 39,U 40,U 41,U 42,U 43,U 44,U 45,U 46,U 47,U 48,U 49,U 50,U 51,U 52,U 53,U 54,U 55,U 56,U 57,U 58,U 59,U 60,U 61,U 62,U 63,U 64,U 65,U 66,U 67,U 68,U 69,U 70,U 71,U 72,U 73,U 74,U 75,U 76,U 77,U 78,U 79,U 80,U 81,U 82,U 83,U 84,U 85,U 86,U 87,U 88,U 89,U 90,U 91,U 92,U 93,U 94,U 95,U 96,U 97,U 98,U 99,U 100,U 101,U 102,U 103,U 104,U 105,U 106,U 107,U 108,U 109,U 110,U 111],defers := [] })→BkZ Wc B lo (vs++[.slice (some ⟨gv,0,none⟩) zs.length cap]) (cs++[c]) lv2 wv2 h→Wc.ownsRow lo 3 1 c zs.length (QA zs)→KeepsZ B lo W Wc→K1 a2 Wc:=by
  rintro Wc a2 c lv2 wv2 ⟨U,rfl⟩ hb2 hown2 hk2;have HBK3:=kz hb2;have HOW2:=kz hown2;have HK3:=kz hk2;apply hK1;clear hK1 HROW e1 e2 HK1 HB1 hlo1;have r1':=(oz HBK3).blk.cell 2;have r2':=(oz HBK3).blk.frozen 2;go_wp2;have HL4:=kz ((oz HBK3).held (wrap64 (wrap64 (h+(cap:Int))+1)));have HK4:=kz ((oz HK3).set (oz HBK3).lo_le 2 (.int .i64 (wrap64 (wrap64 (h+(cap:Int))+1))));have hstart:=Kf (oz HBOOK) (oz HVS) (oz HCS) hdis (oz HROW0) ((KeepsZ.refl B lo _).set (oz HBK3).lo_le 2 (.int .i64 (wrap64 (wrap64 (h+(cap:Int))+1))) |>.own (oz HBK3).blk (oz HOW2)) (oz HL4) (oz HK4);have HST:=kz hstart;have hlo4:lo≤(Wc.setCell ⟨B,2,none⟩ (.int .i64 (wrap64 (wrap64 (h+(cap:Int))+1)))).heap.size:=by have:=(oz HK4).2.1.size;omega
  generalize Wc.setCell ⟨B,2,none⟩ (.int .i64 (wrap64 (wrap64 (h+(cap:Int))+1)))=Wd at *;generalize wrap64 (wrap64 (h+(cap:Int))+1)=hd at *;clear hstart r1' r2' HBK3 HOW2 HK3 HL4 HBK HVS HCS HI HIE b hb2 hown2 hk2;go_loopw [36] (fun _ wr => ∃ (t:List ItZ) (lv' wv':Value) (h':Int),Hz (t≠[])∧t.length≤its.length+1∧Hz (∀ it ∈ t,it ∈ its∨it.v=.slice (some ⟨gv,0,none⟩) zs.length cap)∧Hz (BookZ wr B lo t lv' wv' h')∧Hz (KeepsZ B lo W wr)) (fun _ wr =>KR wr ⟨B,0,none⟩)
  case atStart =>exact ⟨_,_,_,_,kz (by simp),by simp,kz (fun it h =>by rcases List.mem_append.1 h with h | h;exact .inl h;simp at h;exact .inr (by rw [h])),HST,HK4⟩
  case round =>
   obtain ⟨t,lv',wv',h',HNE,htl,HIT,HBK,HKK⟩:=hrel;cases t with
   | nil =>exact absurd rfl (oz HNE)
   | cons it t =>
    obtain ⟨v,c,ws⟩:=it;have hok:=(oz HBK).own ⟨v,c,ws⟩ (by simp);obtain ⟨av,cv,hv,_⟩:=Yh hok.1;obtain ⟨ac,cc,hc,_⟩:=Yh hok.2;simp only at hv hc;subst hv;subst hc;obtain ⟨gl,ol,cl,rfl,hl1,hl2,hlc⟩:=(oz HBK).bk.ls.form (by simp);obtain ⟨gw,ow,cw,rfl,hw1,hw2,hwc⟩:=(oz HBK).bk.ws.form (by simp);simp only [List.length_map,List.length_cons] at HBK hl1 hw1;have l0:wr.cell? ⟨gl,ol,none⟩=some (.slice av ws.length cv):=by simpa using hlc 0 (.slice av ws.length cv) rfl
    have w0:wr.cell? ⟨gw,ow,none⟩=some (.slice ac ws.length cc):=by simpa using hwc 0 (.slice ac ws.length cc) rfl
    have c0:=(oz HBK).bk.blk.cell 0;have c1:=(oz HBK).bk.blk.cell 1;have c2:=(oz HBK).bk.blk.cell 2;have c3:=(oz HBK).bk.blk.cell 3;have f3:=(oz HBK).bk.blk.frozen 3;have HV:=kz hok.1;have HC:=kz hok.2;have hlen4:¬ (4000:Int) < ((t.length+1:Nat):Int):=by simp only [List.length_cons] at htl;omega
    have hmz:KR wr ⟨B,0,none⟩=t.length+1:=by unfold KR;rw [c0];rfl
    have HMZ:=kz hmz;have hlor:lo≤wr.heap.size:=by have:=(oz HKK).2.1.size;omega
    have htl':t.length≤its.length:=by simp only [List.length_cons] at htl;omega
    clear hok hlc hwc hmz;by_cases h1:(1:Int) < ((t.length+1:Nat):Int)
    ·by_cases hh:(1000000:Int) < h'
     ·go_wp2
      go_region_held3 (fun w' =>w'.cell? ⟨B,0,none⟩=some (.slice (some ⟨gl,ol,none⟩) (t.length+1) cl)∧w'.cell? ⟨B,1,none⟩=some (.slice (some ⟨gw,ow,none⟩) (t.length+1) cw)∧w'.cell? ⟨B,3,none⟩=some (.bool false)∧w'.cell? ⟨gl,ol,none⟩=some (.slice av ws.length cv)∧w'.cell? ⟨gw,ow,none⟩=some (.slice ac ws.length cc)) (first | exact ⟨k0,k1,s1,k3,k4⟩ | exact ⟨(oz GB).1.blk.cell 0,(oz GB).1.blk.cell 1,(oz GB).1.blk.cell 3,by simpa using (oz GB).1.ls.at 0 (u := .slice av ws.length cv) rfl,by simpa using (oz GB).1.ws.at 0 (u := .slice ac ws.length cc) rfl⟩ | go_keep)
       ((go_at_call 11;refine (Jb lo _ _ ws _ ?_ ?_).mono ?_;(exact oz HV);(exact oz HC);rintro e w' ⟨rfl,hb⟩;obtain ⟨k0,k1,s1,s2,k3,k4⟩:=ZX (oz HBK).bk hb l0 w0;have GB:=kz (JM (oz HBK).bk hlor hb)))
      have HG:=kz (oz GB);clear GB k0 k1 s1 s2 k3 k4 hb l0 w0 c0 c1 c2 c3 f3 HV HC;generalize w'.setCell ⟨B,3,none⟩ (.bool false)=Wg at *;have l0:Wg.cell? ⟨gl,ol,none⟩=some (.slice av ws.length cv):=by simpa using (oz HG).1.ls.at 0 (u := .slice av ws.length cv) rfl
      have c0:=(oz HG).1.blk.cell 0;have c2:=(oz HG).1.blk.cell 2;have f2:=(oz HG).1.blk.frozen 2;go_wp2
      go_region_with (fail)
      all_goals
       have HG5:=kz ((oz HG).1.held (IntKind.i64.wrap (IntKind.i64.wrap (h' - (cv:Int)) - 1))).drew;have HG6:=kz ((oz HG).2.set (oz HG).1.lo_le 2 (.int .i64 (IntKind.i64.wrap (IntKind.i64.wrap (h' - (cv:Int)) - 1)))).drew;generalize (Wg.setCell ⟨B,2,none⟩ (.int .i64 (IntKind.i64.wrap (IntKind.i64.wrap (h' - (cv:Int)) - 1)))).drew=Wh at *;generalize IntKind.i64.wrap (IntKind.i64.wrap (h' - (cv:Int)) - 1)=h'' at *;clear c0 c2 f2 l0;have c0:=(oz HG5).blk.cell 0;have c1:=(oz HG5).blk.cell 1;have f0:=(oz HG5).blk.frozen 0;have f1:=(oz HG5).blk.frozen 1;have HE:=kz (zbn (oz HBK) (oz HKK) (oz HG5) (oz HG6));go_wp2
       go_roundw
       case rel =>exact ⟨t,.slice (some ⟨gl,ol+1,none⟩) t.length (cl - 1),.slice (some ⟨gw,ow+1,none⟩) t.length (cw - 1),h'',kz (fun e =>by subst e;simp at h1),by omega,kz (fun it hi =>oz HIT it (by simp [hi])),kz (oz HE).1,kz (oz HE).2.1⟩
       case measure =>
        rw [(oz HE).2.2,oz HMZ];omega
     ·go_wp2
      go_end0
      exact ⟨⟨_,rfl⟩,⟨_,oz HNE,oz HIT,htl,_,_,_,oz HBK⟩,oz HKK⟩
    ·go_wp2
     go_end0
     exact ⟨⟨_,rfl⟩,⟨_,oz HNE,oz HIT,htl,_,_,_,oz HBK⟩,oz HKK⟩
 have KEY:=kz key;clear key hK1
 go_region_law (first
  | (refine step_append_lies _ (by rfl) _ _ _ (by rfl) lo 3 iE (.int .i64 0) 1 8 Tryz.underlying35 (oz HIE).1 (oz HIE).2.1 (oz HIE).2.2.1 (oz HIE).2.2.2 rfl (by omega) (.slice none 0 0) 0 [] (by rfl) (World.ownsRow_nil _ _ _ _) ⟨gv,0,none⟩ zs.length cap (QA zs) (by rfl) (by simp [QA]) ((oz HROW).cells (g:=gv) rfl) (by simp [QA,Value.oneCell']) hn (by omega) (by omega) (by simp;omega) Wb.heap.size (by simp) ?_;intro g1 cap1 w1 hown1 hgrow1 hat1 hlt1;have q1:=(zis (oz HB1) hgrow1).blk.cell 1;have q2:=(zis (oz HB1) hgrow1).blk.frozen 1;have q3:=fun o =>((zis (oz HB1) hgrow1).blk.alloc o).cell 1)
  | (refine ZS _ (by rfl) _ _ _ (by rfl) lo 35 i0 (.slice none 0 0) 24 Tryz.underlying55 (oz HI).1 (oz HI).2.1 (oz HI).2.2.1 (oz HI).2.2.2 rfl wv cs (by rfl) ((zis (oz HB1) hgrow1).ws.alloc _) ⟨w1.heap.size,0,none⟩ 1 (.slice (some ⟨g1,0,none⟩) zs.length cap1) (by rfl) ((Blk.new w1 _ 35).cell 0) rfl (by unfold maxLen;omega) (by omega) (by have:=(QO (B:=B) hlo1 hgrow1).2.1.size;simp;omega) ?_;intro g2 o2 cap2 w2 hs2 hgrow2 hat2;obtain ⟨hB3,hbk3,hk3⟩:=zj5 (zis (oz HB1) hgrow1) hs2 hgrow2 (by simpa using hat2) (by have:=(QO (B:=B) hlo1 hgrow1).2.1.size;omega);have r1:=hB3.cell 1;have r2:=hB3.frozen 1))
 all_goals
  have hown2:=(hk3.own (zis (oz HB1) hgrow1).blk (show w1.ownsRow lo 3 1 (.slice (some ⟨g1,0,none⟩) zs.length cap1) zs.length (QA zs) by simpa using hown1));exact oz KEY _ _ _ _ _ (zq rfl) hbk3 hown2 (((oz HK1).trans (QO hlo1 hgrow1)).trans hk3)
theorem KV (W:World) (B lo:Nat) (its:List ItZ) (lv wv:Value) (h:Int) (a:Option Addr) (cap:Nat) (zs:List Int) (hn:zs.length=0) (hdis:∀ it ∈ its,it.v.ownBlock=none∨it.v.ownBlock≠Value.ownBlock (.slice (a) zs.length cap)) (hrow:W.ownsRow lo 3 1 (.slice (a) zs.length cap) zs.length (QA zs)) (hby:zs.length*8≤140737488355328) (hmx:zs.length≤maxLen) (b:BookZ W B lo its lv wv h) (hlo:lo≤W.heap.size) (hl:its.length≤1000):Calls Tryz.prog 21 #[.pointer (some ⟨B,0,none⟩),.slice (a) zs.length cap] W fun e W' =>(∃ r,e=.returned r)∧(∃ t lv' wv' h',t≠[]∧(∀ it ∈ t,it ∈ its∨it.v=.slice (a) zs.length cap)∧t.length≤its.length+1∧BookZ W' B lo t lv' wv' h')∧KeepsZ B lo W W':=by
 have HNN:=kz hn;clear hn;obtain ⟨vs,hvs⟩:∃ vs,vs=its.map ItZ.v:=⟨_,rfl⟩;obtain ⟨cs,hcs⟩:∃ cs,cs=its.map ItZ.c:=⟨_,rfl⟩;have hlv:vs.length≤1000:=by rw [hvs,List.length_map];exact hl
 have hl2:cs.length≤1000:=by rw [hcs,List.length_map];exact hl
 have HBOOK:=kz b;have b:=b.bk;rw [← hvs, ← hcs] at b;have HVS:=kz hvs;have HCS:=kz hcs;clear hvs hcs;have c0:=b.blk.cell 0;have c1:=b.blk.cell 1;have f0:=b.blk.frozen 0;have HBK:=kz b;clear b;obtain ⟨i0,hi,hz0,hz1,hz2⟩:=info_parts zit;have HI:=kz (yB hi (yB hz0 (yB hz1 hz2)));clear hi hz0 hz1 hz2;go_enter Tryz.func21,Tryz.ntmps21;go_wp2_with (at_builtin;refine Y4 _ rfl _ _ 55 rfl lo 35 i0 (.slice none 0 0) 24 Tryz.underlying55 (oz HI).1 (oz HI).2.1 (oz HI).2.2.1 (oz HI).2.2.2 rfl lv vs rfl ((oz HBK).ls.alloc _) ⟨W.heap.size,0,none⟩ 1 (.slice (a) zs.length cap) rfl ((Blk.new W _ 35).cell 0) rfl (by unfold maxLen;omega) (by omega) (by simp;omega) ?_)
 intro g o cap' W2 hs hg hat;obtain ⟨hB1,hbk1,hk1⟩:=zj6 (oz HBK) hs hg hat hlo;have d0:=hB1.cell 0;have d1:=hB1.frozen 0;have HK1:=kz hk1;have HB1:=kz hbk1;clear hs hg hat hB1 hk1 hbk1 c0 c1 f0;obtain ⟨iE,hi,hz0,hz1,hz2⟩:=info_parts ziu;have HIE:=kz (yB hi (yB hz0 (yB hz1 hz2)));have hrow1:=(oz HK1).own (oz HBK).blk hrow;have HROW0:=kz hrow;have hlo1:lo≤(W2.setCell ⟨B,0,none⟩ (.slice (some ⟨g,o,none⟩) (vs.length+1) cap')).heap.size:=(by have:=(oz HK1).2.1.size;omega);clear hi hz0 hz1 hz2 hrow;go_wp2;generalize W2.setCell ⟨B,0,none⟩ (.slice (some ⟨g,o,none⟩) (vs.length+1) cap')=Wb at *;have e1:=(oz HB1).blk.cell 1;have e2:=(oz HB1).blk.frozen 1;have e3:=fun o =>((oz HB1).blk.alloc o).cell 1
 have HROW:=kz hrow1;have hmx2:Tryz.prog.follows .mixedOrders=true:=by kernel_rfl
 clear d0 d1 hrow1
 rename_i K1 hK1
 have key:∀ (Wc:World) (a2:Act) (c:Value) (lv2 wv2:Value),(∃ U:Nat→Value,a2 = { tmps:=#[.pointer (some ⟨B,0,none⟩),.slice (a) zs.length cap,U 2,U 3,U 4,U 5,U 6,U 7,U 8,U 9,U 10,U 11,U 12,U 13,U 14,U 15,U 16,U 17,U 18,U 19,U 20,U 21,U 22,U 23,U 24,U 25,U 26,U 27,U 28,U 29,U 30,U 31,U 32,U 33,U 34,U 35,U 36,U 37,U 38,U 39,U 40,U 41,U 42,U 43,U 44,U 45,U 46,U 47,U 48,U 49,U 50,U 51,U 52,U 53,U 54,U 55,U 56,U 57,U 58,U 59,U 60,U 61,U 62,U 63,U 64,U 65,U 66,U 67,U 68,U 69,U 70,U 71,U 72,U 73,U 74,U 75,U 76,U 77,U 78,U 79,U 80,U 81,U 82,U 83,U 84,U 85,U 86,U 87,U 88,U 89,U 90,U 91,U 92,U 93,U 94,U 95,U 96,U 97,U 98,U 99,U 100,U 101,U 102,U 103,U 104,U 105,U 106,U 107,U 108,U 109,U 110,U 111],defers := [] })→BkZ Wc B lo (vs++[.slice (a) zs.length cap]) (cs++[c]) lv2 wv2 h→Wc.ownsRow lo 3 1 c zs.length (QA zs)→KeepsZ B lo W Wc→K1 a2 Wc:=by
  rintro Wc a2 c lv2 wv2 ⟨U,rfl⟩ hb2 hown2 hk2;have HBK3:=kz hb2;have HOW2:=kz hown2;have HK3:=kz hk2;apply hK1;clear hK1 HROW e1 e2 e3 HK1 HB1 hlo1;have r1':=(oz HBK3).blk.cell 2;have r2':=(oz HBK3).blk.frozen 2;go_wp2;have HL4:=kz ((oz HBK3).held (wrap64 (wrap64 (h+(cap:Int))+1)));have HK4:=kz ((oz HK3).set (oz HBK3).lo_le 2 (.int .i64 (wrap64 (wrap64 (h+(cap:Int))+1))));have hstart:=Kf (oz HBOOK) (oz HVS) (oz HCS) hdis (oz HROW0) ((KeepsZ.refl B lo _).set (oz HBK3).lo_le 2 (.int .i64 (wrap64 (wrap64 (h+(cap:Int))+1))) |>.own (oz HBK3).blk (oz HOW2)) (oz HL4) (oz HK4);have HST:=kz hstart;have hlo4:lo≤(Wc.setCell ⟨B,2,none⟩ (.int .i64 (wrap64 (wrap64 (h+(cap:Int))+1)))).heap.size:=by have:=(oz HK4).2.1.size;omega
  generalize Wc.setCell ⟨B,2,none⟩ (.int .i64 (wrap64 (wrap64 (h+(cap:Int))+1)))=Wd at *;generalize wrap64 (wrap64 (h+(cap:Int))+1)=hd at *;clear hstart r1' r2' HBK3 HOW2 HK3 HL4 HBK HVS HCS HI HIE b hb2 hown2 hk2;go_loopw [36] (fun _ wr => ∃ (t:List ItZ) (lv' wv':Value) (h':Int),Hz (t≠[])∧t.length≤its.length+1∧Hz (∀ it ∈ t,it ∈ its∨it.v=.slice (a) zs.length cap)∧Hz (BookZ wr B lo t lv' wv' h')∧Hz (KeepsZ B lo W wr)) (fun _ wr =>KR wr ⟨B,0,none⟩)
  case atStart =>exact ⟨_,_,_,_,kz (by simp),by simp,kz (fun it h =>by rcases List.mem_append.1 h with h | h;exact .inl h;simp at h;exact .inr (by rw [h])),HST,HK4⟩
  case round =>
   obtain ⟨t,lv',wv',h',HNE,htl,HIT,HBK,HKK⟩:=hrel;cases t with
   | nil =>exact absurd rfl (oz HNE)
   | cons it t =>
    obtain ⟨v,c,ws⟩:=it;have hok:=(oz HBK).own ⟨v,c,ws⟩ (by simp);obtain ⟨av,cv,hv,_⟩:=Yh hok.1;obtain ⟨ac,cc,hc,_⟩:=Yh hok.2;simp only at hv hc;subst hv;subst hc;obtain ⟨gl,ol,cl,rfl,hl1,hl2,hlc⟩:=(oz HBK).bk.ls.form (by simp);obtain ⟨gw,ow,cw,rfl,hw1,hw2,hwc⟩:=(oz HBK).bk.ws.form (by simp);simp only [List.length_map,List.length_cons] at HBK hl1 hw1;have l0:wr.cell? ⟨gl,ol,none⟩=some (.slice av ws.length cv):=by simpa using hlc 0 (.slice av ws.length cv) rfl
    have w0:wr.cell? ⟨gw,ow,none⟩=some (.slice ac ws.length cc):=by simpa using hwc 0 (.slice ac ws.length cc) rfl
    have c0:=(oz HBK).bk.blk.cell 0;have c1:=(oz HBK).bk.blk.cell 1;have c2:=(oz HBK).bk.blk.cell 2;have c3:=(oz HBK).bk.blk.cell 3;have f3:=(oz HBK).bk.blk.frozen 3;have HV:=kz hok.1;have HC:=kz hok.2;have hlen4:¬ (4000:Int) < ((t.length+1:Nat):Int):=by simp only [List.length_cons] at htl;omega
    have hmz:KR wr ⟨B,0,none⟩=t.length+1:=by unfold KR;rw [c0];rfl
    have HMZ:=kz hmz;have hlor:lo≤wr.heap.size:=by have:=(oz HKK).2.1.size;omega
    have htl':t.length≤its.length:=by simp only [List.length_cons] at htl;omega
    clear hok hlc hwc hmz;by_cases h1:(1:Int) < ((t.length+1:Nat):Int)
    ·by_cases hh:(1000000:Int) < h'
     ·go_wp2
      go_region_held3 (fun w' =>w'.cell? ⟨B,0,none⟩=some (.slice (some ⟨gl,ol,none⟩) (t.length+1) cl)∧w'.cell? ⟨B,1,none⟩=some (.slice (some ⟨gw,ow,none⟩) (t.length+1) cw)∧w'.cell? ⟨B,3,none⟩=some (.bool false)∧w'.cell? ⟨gl,ol,none⟩=some (.slice av ws.length cv)∧w'.cell? ⟨gw,ow,none⟩=some (.slice ac ws.length cc)) (first | exact ⟨k0,k1,s1,k3,k4⟩ | exact ⟨(oz GB).1.blk.cell 0,(oz GB).1.blk.cell 1,(oz GB).1.blk.cell 3,by simpa using (oz GB).1.ls.at 0 (u := .slice av ws.length cv) rfl,by simpa using (oz GB).1.ws.at 0 (u := .slice ac ws.length cc) rfl⟩ | go_keep)
       ((go_at_call 11;refine (Jb lo _ _ ws _ ?_ ?_).mono ?_;(exact oz HV);(exact oz HC);rintro e w' ⟨rfl,hb⟩;obtain ⟨k0,k1,s1,s2,k3,k4⟩:=ZX (oz HBK).bk hb l0 w0;have GB:=kz (JM (oz HBK).bk hlor hb)))
      have HG:=kz (oz GB);clear GB k0 k1 s1 s2 k3 k4 hb l0 w0 c0 c1 c2 c3 f3 HV HC;generalize w'.setCell ⟨B,3,none⟩ (.bool false)=Wg at *;have l0:Wg.cell? ⟨gl,ol,none⟩=some (.slice av ws.length cv):=by simpa using (oz HG).1.ls.at 0 (u := .slice av ws.length cv) rfl
      have c0:=(oz HG).1.blk.cell 0;have c2:=(oz HG).1.blk.cell 2;have f2:=(oz HG).1.blk.frozen 2;go_wp2
      go_region_with (fail)
      all_goals
       have HG5:=kz ((oz HG).1.held (IntKind.i64.wrap (IntKind.i64.wrap (h' - (cv:Int)) - 1))).drew;have HG6:=kz ((oz HG).2.set (oz HG).1.lo_le 2 (.int .i64 (IntKind.i64.wrap (IntKind.i64.wrap (h' - (cv:Int)) - 1)))).drew;generalize (Wg.setCell ⟨B,2,none⟩ (.int .i64 (IntKind.i64.wrap (IntKind.i64.wrap (h' - (cv:Int)) - 1)))).drew=Wh at *;generalize IntKind.i64.wrap (IntKind.i64.wrap (h' - (cv:Int)) - 1)=h'' at *;clear c0 c2 f2 l0;have c0:=(oz HG5).blk.cell 0;have c1:=(oz HG5).blk.cell 1;have f0:=(oz HG5).blk.frozen 0;have f1:=(oz HG5).blk.frozen 1;have HE:=kz (zbn (oz HBK) (oz HKK) (oz HG5) (oz HG6));go_wp2
       go_roundw
       case rel =>exact ⟨t,.slice (some ⟨gl,ol+1,none⟩) t.length (cl - 1),.slice (some ⟨gw,ow+1,none⟩) t.length (cw - 1),h'',kz (fun e =>by subst e;simp at h1),by omega,kz (fun it hi =>oz HIT it (by simp [hi])),kz (oz HE).1,kz (oz HE).2.1⟩
       case measure =>
        rw [(oz HE).2.2,oz HMZ];omega
     ·go_wp2
      go_end0
      exact ⟨⟨_,rfl⟩,⟨_,oz HNE,oz HIT,htl,_,_,_,oz HBK⟩,oz HKK⟩
    ·go_wp2
     go_end0
     exact ⟨⟨_,rfl⟩,⟨_,oz HNE,oz HIT,htl,_,_,_,oz HBK⟩,oz HKK⟩
 have KEY:=kz key;clear key hK1
 go_region_law (first
  | (refine Y6 _ (by rfl) _ _ _ (by rfl) 3 iE Tryz.underlying35 (oz HIE).1 (by rfl) a zs.length cap (oz HNN) (by rfl) ?_)
  | (refine ZS _ (by rfl) _ _ _ (by rfl) lo 35 i0 (.slice none 0 0) 24 Tryz.underlying55 (oz HI).1 (oz HI).2.1 (oz HI).2.2.1 (oz HI).2.2.2 rfl wv cs (by rfl) ((oz HB1).drew.ws.alloc _) ⟨Wb.heap.size,0,none⟩ 1 (.slice none 0 0) (by rfl) ((Blk.new Wb.drew _ 35).cell 0) rfl (by unfold maxLen;omega) (by omega) (by simp;omega) ?_;intro g2 o2 cap2 w2 hs2 hgrow2 hat2;obtain ⟨hB3,hbk3,hk3⟩:=zj5 (oz HB1).drew hs2 hgrow2 (by simpa using hat2) hlo1;have r1:=hB3.cell 1;have r2:=hB3.frozen 1))
 all_goals
  have hz:zs=[]:=List.eq_nil_of_length_eq_zero (oz HNN);exact oz KEY _ _ _ _ _ (zq rfl) hbk3 (by rw [hz];exact World.ownsRow_nil _ _ _ _) (((oz HK1).trans (KeepsZ.refl B lo Wb).drew).trans hk3)
theorem zf6 (W:World) (B lo:Nat) (its:List ItZ) (lv wv:Value) (h:Int) (v:Value) (zs:List Int) (hdis:∀ it ∈ its,it.v.ownBlock=none∨it.v.ownBlock≠v.ownBlock) (hrow:W.ownsRow lo 3 1 v zs.length (QA zs)) (hby:zs.length*8≤140737488355328) (hmx:zs.length≤maxLen) (b:BookZ W B lo its lv wv h) (hlo:lo≤W.heap.size) (hl:its.length≤1000) :
  Calls Tryz.prog 21 #[.pointer (some ⟨B,0,none⟩),v] W fun e W' =>(∃ r,e=.returned r)∧(∃ t lv' wv' h',t≠[]∧(∀ it ∈ t,it ∈ its∨it.v=v)∧t.length≤its.length+1∧BookZ W' B lo t lv' wv' h')∧KeepsZ B lo W W':=by
 rcases hrow.2 with ⟨rfl,h0⟩ | ⟨g,cap,cur,rfl,_⟩
 ·have:=KV W B lo its lv wv h none 0 zs h0 (by simpa [h0] using hdis) (by simpa [h0] using hrow) hby hmx b hlo hl;simpa [h0] using this
 ·by_cases h0:zs.length=0
  ·exact KV W B lo its lv wv h _ cap zs h0 hdis hrow hby hmx b hlo hl
  ·exact zec W B lo its lv wv h g cap zs (by omega) hdis hrow hby hmx b hlo hl
set_option maxRecDepth 100000
set_option maxHeartbeats 8000000
theorem zdL (W:World) (B lo:Nat) (t:List ItZ) (lv wv:Value) (h:Int) (b:BookZ W B lo t lv wv h) (hlo:lo≤W.heap.size) (hl:t.length≤1001) :
  Calls Tryz.prog 56 #[.pointer (some ⟨B,0,none⟩)] W fun e W' =>e=.returned (.bool true)∧BookZ W' B lo t lv wv h∧KeepsZ B lo W W':=by
 have hlv:∃ al cl,lv=.slice al t.length cl:=by
  rcases b.bk.ls with ⟨rfl,h0⟩ | ⟨g,o,cap,cur,rfl,_⟩
  ·exact ⟨none,0,by rw [List.map_eq_nil_iff] at h0;rw [h0];rfl⟩
  ·exact ⟨_,cap,by rw [List.length_map]⟩
 obtain ⟨al,cl,rfl⟩:=hlv;have HB:=kz b;clear b;go_enter Tryz.func56,Tryz.ntmps56;go_wp2;go_loopw [3] (fun i wr => ∃ k:Nat,i=.int .i64 k∧k≤t.length∧Hz (BookZ wr B lo t (.slice al t.length cl) wv h)∧Hz (KeepsZ B lo W wr)) (fun i _ =>t.length - (intOf i).toNat)
 case atStart =>exact ⟨0,rfl,by omega,HB,kz (KeepsZ.refl B lo W)⟩
 case round =>
  obtain ⟨k,rfl,hk,HBK,HKK⟩:=hrel;have c0:=(oz HBK).bk.blk.cell 0;have c1:=(oz HBK).bk.blk.cell 1;have c3:=(oz HBK).bk.blk.cell 3;have f3:=(oz HBK).bk.blk.frozen 3;by_cases hkn:k < t.length
  ·have hk1:(k:Int) < (t.length:Int):=by omega
   have hk2:=Zp k
   obtain ⟨it,hit⟩:∃ it,t[k]?=some it:=⟨_,qR hkn⟩;have hok:=(oz HBK).own it (YH hit);obtain ⟨v,c,ws⟩:=it;obtain ⟨av,cv,hv,_⟩:=Yh hok.1;obtain ⟨ac,cc,hc,_⟩:=Yh hok.2;simp only at hv hc;subst hv;subst hc;obtain ⟨gl,ol,cl',e1,hl1,hl2,hlc⟩:=(oz HBK).bk.ls.form (by rw [List.length_map];omega);obtain ⟨gw,ow,cw,rfl,hw1,hw2,hwc⟩:=(oz HBK).bk.ws.form (by rw [List.length_map];omega);rw [List.length_map] at e1;cases e1
   simp only [List.length_map] at HBK hl1 hw1 c1;have l0:wr.cell? ⟨gl,ol+k,none⟩=some (.slice av ws.length cv):=hlc k _ (by simp [hit]);have w0:wr.cell? ⟨gw,ow+k,none⟩=some (.slice ac ws.length cc):=hwc k _ (by simp [hit]);have HV:=kz hok.1;have HC:=kz hok.2;have HIT:=kz hit;have hlor:lo≤wr.heap.size:=by have:=(oz HKK).2.1.size;omega
   clear hok hlc hwc hit;go_wp2
   go_region_held3 (fun w' =>w'.cell? ⟨B,0,none⟩=some (.slice (some ⟨gl,ol,none⟩) t.length cl)∧w'.cell? ⟨B,1,none⟩=some (.slice (some ⟨gw,ow,none⟩) t.length cw)∧w'.cell? ⟨B,3,none⟩=some (.bool false)∧w'.cell? ⟨gl,ol+k,none⟩=some (.slice av ws.length cv)∧w'.cell? ⟨gw,ow+k,none⟩=some (.slice ac ws.length cc)) (first | exact ⟨k0,k1,s1,k3,k4⟩ | exact ⟨(oz GB).1.blk.cell 0,(oz GB).1.blk.cell 1,(oz GB).1.blk.cell 3,(oz GB).1.ls.at k (u := .slice av ws.length cv) (by simp [oz HIT]),(oz GB).1.ws.at k (u := .slice ac ws.length cc) (by simp [oz HIT])⟩ | go_keep)
    ((go_at_call 11;refine (Jb lo _ _ ws _ ?_ ?_).mono ?_;(exact oz HV);(exact oz HC);rintro e w' ⟨rfl,hb⟩;obtain ⟨k0,k1,s1,s2,k3,k4⟩:=ZX (oz HBK).bk hb l0 w0;have GB:=kz (JM (oz HBK).bk hlor hb)))
   have HN:=kz (show BookZ (w'.setCell ⟨B,3,none⟩ (.bool false)) B lo t (.slice (some ⟨gl,ol,none⟩) t.length cl) (.slice (some ⟨gw,ow,none⟩) t.length cw) h from ⟨(oz GB).1,fun it hi =>((oz HBK).own it hi).kept (oz GB).2 (oz HBK).bk.blk,(oz HBK).dis⟩);have HNK:=kz ((oz HKK).trans (oz GB).2);clear GB k0 k1 s1 s2 k3 k4 hb l0 w0 c0 c1 c3 f3;go_wp2
   go_roundw
   case rel =>exact ⟨k+1,by go_num,by omega,by rw [List.length_map];exact HN,HNK⟩
   case measure =>simp [intOf];omega
  ·have hk1:¬ (k:Int) < (t.length:Int):=by omega
   go_wp2;go_ret;exact ⟨rfl,oz HBK,oz HKK⟩
set_option maxRecDepth 100000
set_option maxHeartbeats 8000000
def FullZ (W:World) (lo:Nat) (v:Value) (f:Nat→Int) (m:Nat):Prop :=
 v=.slice none 0 0∨∃ g n cap cur,v=.slice (some ⟨g,0,none⟩) n cap∧lo≤g∧Blk W g cur 3∧cur.size=cap∧cap≤maxLen∧n≤cap∧∀ j,j < m→j < cap→∀ z,z=f j→cur[j]?=some (Value.int .i64 z)
theorem zgd {W:World} {lo n:Nat} {v:Value} {xs:List Value} (h:W.ownsRow lo 3 1 v n xs) (f:Nat→Int):FullZ W lo v f 0:=by
 rcases h.2 with ⟨rfl,_⟩ | ⟨g,cap,cur,rfl,hb,hg,h1,h2,h3,_⟩
 ·exact .inl rfl
 ·exact .inr ⟨g,n,cap,cur,rfl,hb,hg,by omega,h2,h1,fun j hj =>by omega⟩
theorem FullZ.below {W W':World} {lo:Nat} {v:Value} {f:Nat→Int} {m:Nat} (h:FullZ W lo v f m) (k:Below W.heap.size W W'):FullZ W' lo v f m:=by
 rcases h with h | ⟨g,n,cap,cur,rfl,hl,hg,rest⟩
 ·exact .inl h
 ·exact .inr ⟨g,n,cap,cur,rfl,hl,hg.below k hg.lt,rest⟩
theorem FullZ.other {W:World} {lo:Nat} {v:Value} {f:Nat→Int} {m g i:Nat} (h:FullZ W lo v f m) (hne:v.ownBlock=none∨v.ownBlock≠some g) (u:Value):FullZ (W.setCell ⟨g,i,none⟩ u) lo v f m:=by
 rcases h with h | ⟨g',n,cap,cur,rfl,hl,hg,rest⟩
 ·exact .inl h
 ·refine .inr ⟨g',n,cap,cur,rfl,hl,hg.other (fun e =>?_) u,rest⟩;subst e;simp [Value.ownBlock] at hne
def MkZ (W:World) (lo:Nat) (t:List ItZ) (mk:Nat→Nat→Int) (k m:Nat):Prop := ∀ i it,t[i]?=some it→FullZ W lo it.v (mk i) (if i < k then maxLen else if i=k then m else 0)
theorem MkZ.below {W W':World} {lo:Nat} {t:List ItZ} {mk:Nat→Nat→Int} {k m:Nat} (h:MkZ W lo t mk k m) (hb:Below W.heap.size W W'):MkZ W' lo t mk k m:=fun i it hi =>(h i it hi).below hb
theorem zjB {t:List ItZ} (hd:t.Pairwise (fun a b =>a.v.ownBlock=none∨a.v.ownBlock≠b.v.ownBlock)) {i k:Nat} {x y:ItZ} (hi:t[i]?=some x) (hk:t[k]?=some y) (hne:i≠k):x.v.ownBlock=none∨x.v.ownBlock≠y.v.ownBlock:=by
 obtain ⟨hi1,rfl⟩:=Ze.1 hi;obtain ⟨hk1,rfl⟩:=Ze.1 hk;rw [List.pairwise_iff_getElem] at hd;rcases Nat.lt_or_gt_of_ne hne with hlt | hgt
 ·exact hd i k hi1 hk1 hlt
 ·exact Kk (hd k i hk1 hi1 hgt)
theorem MkZ.set {W:World} {lo:Nat} {t:List ItZ} {mk:Nat→Nat→Int} {k m:Nat} (h:MkZ W lo t mk k m) (hd:t.Pairwise (fun a b =>a.v.ownBlock=none∨a.v.ownBlock≠b.v.ownBlock)) {it:ItZ} (hk:t[k]?=some it) {g n cap:Nat} (hv:it.v=.slice (some ⟨g,0,none⟩) n cap) (hm:m < cap) (z:Int) (hz:z=mk k m) :
  MkZ (W.setCell ⟨g,m,none⟩ (Value.int .i64 z)) lo t mk k (m+1):=by
 intro i x hi;by_cases e:i=k
 ·subst e;obtain rfl:x=it:=by rw [hk] at hi;cases hi;rfl
  have:=h i x hk;simp only [Nat.lt_irrefl,if_false,if_true] at this ⊢;rcases this with q | ⟨g',n',cap',cur,hv',hl,hg,h1,h2,h3,h4⟩
  ·rw [hv] at q;cases q
  ·rw [hv] at hv';cases hv'
   refine .inr ⟨g,n,cap,_,hv,hl,hg.set m (Value.int .i64 z),by simpa using h1,h2,h3,fun j hj hjc y hy =>?_⟩;by_cases ej:j=m
   ·subst ej;rw [Array.getElem?_setIfInBounds_self_of_lt (by omega),hy, ← hz]
   ·rw [Array.getElem?_setIfInBounds_ne (by omega)];exact h4 j (by omega) hjc y hy
 ·have hne:=zjB hd hi hk e;rw [hv] at hne;have:=(h i x hi).other (g:=g) (i:=m) (by simpa [Value.ownBlock] using hne) (Value.int .i64 z);by_cases h2:i < k
  ·simpa [h2] using this
  ·simpa [h2,e] using this
theorem MkZ.next {W:World} {lo:Nat} {t:List ItZ} {mk:Nat→Nat→Int} {k m:Nat} (h:MkZ W lo t mk k m) (hm:∀ it g n cap,t[k]?=some it→it.v=.slice (some ⟨g,0,none⟩) n cap→cap≤m):MkZ W lo t mk (k+1) 0:=by
 intro i x hi;have:=h i x hi;by_cases e:i=k
 ·subst e;simp only [Nat.lt_irrefl,if_false,if_true] at this;rcases this with q | ⟨g',n',cap',cur,hv',hl,hg,h1,h2,h3,h4⟩
  ·exact .inl q
  ·exact .inr ⟨g',n',cap',cur,hv',hl,hg,h1,h2,h3,fun j _ hjc =>h4 j (by have:=hm x g' n' cap' hi hv';omega) hjc⟩
 ·by_cases h2:i < k
  ·simpa [h2,show i < k+1 by omega] using this
  ·by_cases h3:i=k+1
   ·subst h3;simpa [show ¬ k+1 < k by omega] using this
   ·simpa [h2,e,h3,show ¬ i < k+1 by omega] using this
theorem BkZ.elem {W:World} {B lo:Nat} {vs cs:List Value} {lv wv:Value} {h:Int} (b:BkZ W B lo vs cs lv wv h) {g i:Nat} {cur:Array Value} (hg:Blk W g cur 3) (u:Value):BkZ (W.setCell ⟨g,i,none⟩ u) B lo vs cs lv wv h:=by
 refine ⟨b.blk.other (fun e =>?_) u,b.ls.set hg (by decide) u,b.ws.set hg (by decide) u,b.ap,b.lo_le⟩;subst e;have:=(show W.heap[B]?=_ from b.blk).symm.trans hg;simp at this
abbrev evZ (z:Int):Value:=(Value.int .i64 z)
theorem MkZ.form {W:World} {lo:Nat} {t:List ItZ} {mk:Nat→Nat→Int} {k m i:Nat} {it:ItZ} (h:MkZ W lo t mk k m) (hi:t[i]?=some it):∃ a n cp,it.v=.slice a n cp∧n≤cp∧cp≤maxLen∧(0 < cp→∃ g,a=some ⟨g,0,none⟩):=by
 rcases h i it hi with q | ⟨g,n,cap,cur,hv,hl,hg,h1,h2,h3,h4⟩
 ·exact ⟨none,0,0,q,by omega,by unfold maxLen;omega,fun h =>by omega⟩
 ·exact ⟨_,n,cap,hv,h3,h2,fun _ =>⟨g,rfl⟩⟩
theorem MkZ.blk {W:World} {lo:Nat} {t:List ItZ} {mk:Nat→Nat→Int} {k m i:Nat} {it:ItZ} (h:MkZ W lo t mk k m) (hi:t[i]?=some it) {g n cp:Nat} (hv:it.v=.slice (some ⟨g,0,none⟩) n cp):∃ cur,Blk W g cur 3∧cur.size=cp∧lo≤g∧(i < k→∀ j,j < cp→cur[j]?=some (evZ (mk i j))):=by
 rcases h i it hi with q | ⟨g',n',cap,cur,hv',hl,hg,h1,h2,h3,h4⟩
 ·rw [hv] at q;cases q
 ·rw [hv] at hv';cases hv'
  exact ⟨cur,hg,h1,hl,fun hik j hj =>h4 j (by rw [if_pos hik];omega) hj _ rfl⟩
structure BlN (lo:Nat) (W W':World):Prop where
 bl:Below lo W W'
 nc:∀ (k:Nat) (o:Obj),W.heap[k]?=some o→o.isCells=false→W'.heap[k]?=some o
theorem BlN.size {lo:Nat} {W W':World} (h:BlN lo W W'):W.heap.size≤W'.heap.size:=h.bl.size
theorem BlN.after {lo:Nat} {W W1 W2:World} (h:BlN lo W W1) (k:Below W1.heap.size W1 W2) (hl:lo≤W1.heap.size):BlN lo W W2:=⟨h.bl.trans (k.mono hl),fun i o hi ho =>(k.block i (zeI.1 (h.nc i o hi ho)).1).trans (h.nc i o hi ho)⟩
theorem ziZ {W:World} {k:Nat} {o:Obj} (p:Addr) (v:Value) (h:W.heap[k]?=some o) (ho:o.isCells=false):(W.setCell p v).heap[k]?=some o:=by
 unfold World.setCell;simp only [Array.getElem?_modify,h];split
 ·cases o <;> first | rfl | (cases ho)
 ·rfl
theorem BlN.setCell {lo:Nat} {W W1:World} (h:BlN lo W W1) {p:Addr} (hp:lo≤p.block) (v:Value):BlN lo W (W1.setCell p v):=⟨h.bl.setCell hp v,fun k o hk ho =>ziZ p v (h.nc k o hk ho) ho⟩
theorem BlN.drewN {lo:Nat} {W W1:World} (h:BlN lo W W1) (n:Nat):BlN lo W (W1.drewN n):=⟨J7 h.bl n,h.nc⟩
theorem zie (mk:Nat→Nat→Int) (hmark:∀ (i j:Nat) (w:World),i≤1001→j≤maxLen→Calls Tryz.prog 28 #[.int .i64 i,.int .i64 j] w fun e w' =>e=.returned (evZ (mk i j))∧Below w.heap.size w w')
  (W:World) (B lo:Nat) (t:List ItZ) (lv wv:Value) (h:Int) (b:BookZ W B lo t lv wv h) (hlo:lo≤W.heap.size) (hl:t.length≤1001) :
  Calls Tryz.prog 27 #[.pointer (some ⟨B,0,none⟩),.func (.func 28) #[] #[]] W fun e W' =>e=.returned (.bool true)∧BlN lo W W':=by
 have hlv:∃ al cl,lv=.slice al t.length cl:=by
  rcases b.bk.ls with ⟨rfl,h0⟩ | ⟨g,o,cap,cur,rfl,_⟩
  ·exact ⟨none,0,by rw [List.map_eq_nil_iff] at h0;rw [h0];rfl⟩
  ·exact ⟨_,cap,by rw [List.length_map]⟩
 obtain ⟨al,cl,rfl⟩:=hlv;have HD:=kz b.dis;have HMK:=kz hmark;have HB:=kz b;clear b hmark;go_enter Tryz.func27,Tryz.ntmps27;go_wp2_with fail
 refine (zdL W B lo t _ wv h (oz HB) hlo hl).mono ?_;rintro e W1 ⟨rfl,hb1,hk1⟩;have HB1:=kz hb1.bk;have HM1:Hz (MkZ W1 lo t mk 0 0):=kz (fun i it hi =>by simpa using zgd (hb1.own it (YH hi)).1 (mk i));have HL1:=kz (BlN.mk hk1.2.1 hk1.2.2);clear hb1 hk1;go_wp2;go_loopw [5] (fun i wr => ∃ k:Nat,i=.int .i64 k∧k≤t.length∧Hz (BkZ wr B lo (t.map ItZ.v) (t.map ItZ.c) (.slice al t.length cl) wv h)∧Hz (MkZ wr lo t mk k 0)∧Hz (BlN lo W wr)) (fun i _ =>t.length - (intOf i).toNat)
 case atStart =>exact ⟨0,rfl,by omega,HB1,HM1,HL1⟩
 case round =>
  obtain ⟨k,rfl,hk,HBK,HM,HL⟩:=hrel;have c0:=(oz HBK).blk.cell 0;by_cases hkn:k < t.length
  ·have hk1:(k:Int) < (t.length:Int):=by omega
   have hk2:=Zp k
   obtain ⟨it,hit⟩:∃ it,t[k]?=some it:=⟨_,qR hkn⟩;obtain ⟨av,nv,cv,hv,hnc,hcm,hav⟩:=(oz HM).form hit;obtain ⟨gl,ol,cl',e1,hl1,hl2,hlc⟩:=(oz HBK).ls.form (by rw [List.length_map];omega);rw [List.length_map] at e1;cases e1
   simp only [List.length_map] at HBK hl1;have l0:wr.cell? ⟨gl,ol+k,none⟩=some (.slice av nv cv):=hlc k _ (by simp [hit,hv]);have HIT:=kz hit;have HV:=kz hv;have HAV:=kz hav;have hcm':(cv:Int)≤9223372036854775807:=by unfold maxLen at hcm;omega
   have hlor:lo≤wr.heap.size:=by have:=(oz HL).size;omega
   clear hlc hit hv hav;go_wp2
   go_quiet (fail)
   go_wp2;have HB2:Hz (BkZ (wr.drewN nq) B lo (t.map ItZ.v) (t.map ItZ.c) (.slice (some ⟨gl,ol,none⟩) t.length cl) wv h):=kz ⟨(oz HBK).blk,(oz HBK).ls,(oz HBK).ws,(oz HBK).ap,(oz HBK).lo_le⟩;have HM2:Hz (MkZ (wr.drewN nq) lo t mk k 0):=kz (oz HM);have HL2:=kz ((oz HL).drewN nq);clear c0 l0;generalize wr.drewN nq=Wq at *;go_loopw [7] (fun j wr2 => ∃ m:Nat,j=.int .i64 m∧m≤cv∧Hz (BkZ wr2 B lo (t.map ItZ.v) (t.map ItZ.c) (.slice (some ⟨gl,ol,none⟩) t.length cl) wv h)∧Hz (MkZ wr2 lo t mk k m)∧Hz (BlN lo W wr2)) (fun j _ =>cv - (intOf j).toNat)
   case atStart =>exact ⟨0,rfl,by omega,HB2,HM2,HL2⟩
   case round =>
    obtain ⟨m,rfl,hm,HB3,HM3,HL3⟩:=hrel;by_cases hmc:m < cv
    ·obtain ⟨g,rfl⟩:=oz HAV (by omega);have hm1:(m:Int) < (cv:Int):=by omega
     have hm2:((m:Nat):Int).toNat=m:=by omega
     have hlo3:lo≤wr.heap.size:=by have:=(oz HL3).size;omega
     go_wp2_with fail
     refine (oz HMK k m _ (by omega) (by omega)).mono ?_;rintro e w' ⟨rfl,hb⟩;obtain ⟨cur,hcur,hsz,hlg,_⟩:=((oz HM3).below hb).blk (oz HIT) (oz HV);have q1:w'.cell? ⟨g,m,none⟩=some (cur[m]'(by omega)):=by rw [hcur.cell,Array.getElem?_eq_getElem (by omega)]
     have q2:=hcur.frozen m;have HB4:=kz (((oz HB3).below hb).elem (i:=m) hcur (evZ (mk k m)));have HM4:=kz (((oz HM3).below hb).set (oz HD) (oz HIT) (oz HV) hmc (mk k m) rfl);have HL4:=kz (((oz HL3).after hb hlo3).setCell (p:=⟨g,m,none⟩) hlg (evZ (mk k m)));clear hb hcur hlg;go_wp2
     go_roundw
     case rel =>exact ⟨m+1,by go_num,by omega,HB4,HM4,HL4⟩
     case measure =>simp [intOf];omega
    ·have hm1:¬ (m:Int) < (cv:Int):=by omega
     have HM4:=kz ((oz HM3).next (fun it g n cap h1 h2 =>by rw [oz HIT] at h1;cases h1;rw [oz HV] at h2;cases h2;omega));go_wp2
     go_roundw
     case rel =>exact ⟨k+1,by go_num,by omega,HB3,HM4,HL3⟩
     case measure =>simp [intOf];omega
  ·have hk1:¬ (k:Int) < (t.length:Int):=by omega
   obtain rfl:k=t.length:=by omega
   go_wp2;clear hkn hk1 hk c0;go_loopw [8] (fun i wr2 => ∃ k:Nat,i=.int .i64 k∧k≤t.length∧Hz (BkZ wr2 B lo (t.map ItZ.v) (t.map ItZ.c) (.slice al t.length cl) wv h)∧Hz (MkZ wr2 lo t mk t.length 0)∧Hz (BlN lo W wr2)) (fun i _ =>t.length - (intOf i).toNat)
   case atStart =>exact ⟨0,rfl,by omega,HBK,HM,HL⟩
   case round =>
    clear HBK HM HL;obtain ⟨k,rfl,hk,HBK,HM,HL⟩:=hrel;have c0:=(oz HBK).blk.cell 0;by_cases hkn:k < t.length
    ·have hk1:(k:Int) < (t.length:Int):=by omega
     have hk2:=Zp k
     obtain ⟨it,hit⟩:∃ it,t[k]?=some it:=⟨_,qR hkn⟩;obtain ⟨av,nv,cv,hv,hnc,hcm,hav⟩:=(oz HM).form hit;obtain ⟨gl,ol,cl',e1,hl1,hl2,hlc⟩:=(oz HBK).ls.form (by rw [List.length_map];omega);rw [List.length_map] at e1;cases e1
     simp only [List.length_map] at HBK hl1;have l0:wr.cell? ⟨gl,ol+k,none⟩=some (.slice av nv cv):=hlc k _ (by simp [hit,hv]);have HIT:=kz hit;have HV:=kz hv;have HAV:=kz hav;have hcm':(cv:Int)≤9223372036854775807:=by unfold maxLen at hcm;omega
     clear hlc hit hv hav;go_wp2
     go_quiet (fail)
     go_wp2;have HB2:Hz (BkZ (wr.drewN nq) B lo (t.map ItZ.v) (t.map ItZ.c) (.slice (some ⟨gl,ol,none⟩) t.length cl) wv h):=kz ⟨(oz HBK).blk,(oz HBK).ls,(oz HBK).ws,(oz HBK).ap,(oz HBK).lo_le⟩;have HM2:Hz (MkZ (wr.drewN nq) lo t mk t.length 0):=kz (oz HM);have HL2:=kz ((oz HL).drewN nq);clear c0 l0;generalize wr.drewN nq=Wq at *;go_loopw [10] (fun j wr2 => ∃ m:Nat,j=.int .i64 m∧m≤cv∧Hz (BkZ wr2 B lo (t.map ItZ.v) (t.map ItZ.c) (.slice (some ⟨gl,ol,none⟩) t.length cl) wv h)∧Hz (MkZ wr2 lo t mk t.length 0)∧Hz (BlN lo W wr2)) (fun j _ =>cv - (intOf j).toNat)
     case atStart =>exact ⟨0,rfl,by omega,HB2,HM2,HL2⟩
     case round =>
      obtain ⟨m,rfl,hm,HB3,HM3,HL3⟩:=hrel;by_cases hmc:m < cv
      ·obtain ⟨g,rfl⟩:=oz HAV (by omega);have hm1:(m:Int) < (cv:Int):=by omega
       have hm2:((m:Nat):Int).toNat=m:=by omega
       have hlo3:lo≤wr.heap.size:=by have:=(oz HL3).size;omega
       obtain ⟨cur,hcur,hsz,hlg,hfull⟩:=(oz HM3).blk (oz HIT) (oz HV);have q1:wr.cell? ⟨g,m,none⟩=some (evZ (mk k m)):=by rw [hcur.cell];exact hfull hkn m hmc
       have HC:=kz (fun w =>oz HMK k m w (by omega) (by omega));have HQ:=kz q1;generalize mk k m=z at q1 HC HQ;have hzz:(z != z)=false:=by simp
       clear hfull hcur;go_wp2
       go_region_with ((go_at_call 28;refine (oz HC _).mono ?_;rintro e w' ⟨rfl,hb⟩;have q3:=(Below.cell (p:=⟨g,m,none⟩) (show Below wr.heap.size wr w' from ⟨hb.os,hb.tape,hb.output,hb.size,hb.block⟩) (YG (oz HQ))).trans (oz HQ)))
       all_goals
        have hb':Below wr.heap.size wr w':=⟨hb.os,hb.tape,hb.output,hb.size,hb.block⟩;have HB4:=kz ((oz HB3).below hb');have HM4:=kz ((oz HM3).below hb');have HL4:=kz ((oz HL3).after hb' hlo3);clear hb hb';go_wp2
        go_roundw
        case rel =>exact ⟨m+1,by go_num,by omega,HB4,HM4,HL4⟩
        case measure =>simp [intOf];omega
      ·have hm1:¬ (m:Int) < (cv:Int):=by omega
       go_wp2
       go_roundw
       case rel =>exact ⟨k+1,by go_num,by omega,HB3,HM3,HL3⟩
       case measure =>simp [intOf];omega
    ·have hk1:¬ (k:Int) < (t.length:Int):=by omega
     have f0:=(oz HBK).blk.frozen 0;have f1:=(oz HBK).blk.frozen 1;have f2:=(oz HBK).blk.frozen 2;have c1:=(oz HBK).blk.cell 1;have c2:=(oz HBK).blk.cell 2;have HE:=kz ((((oz HL).setCell (p:=⟨B,0,none⟩) (oz HBK).lo_le (.slice none 0 0)).setCell (p:=⟨B,1,none⟩) (oz HBK).lo_le (.slice none 0 0)).setCell (p:=⟨B,2,none⟩) (oz HBK).lo_le (.int .i64 0));go_wp2;go_ret;exact ⟨rfl,oz HE⟩
theorem zeF (mk:Nat→Nat→Int) (hmark:∀ (i j:Nat) (w:World),i≤1001→j≤maxLen→Calls Tryz.prog 28 #[.int .i64 i,.int .i64 j] w fun e w' =>e=.returned (evZ (mk i j))∧Below w.heap.size w w')
  (W:World) (B lo:Nat) (t:List ItZ) (lv wv:Value) (h:Int) (b:BookZ W B lo t lv wv h) (hlo:lo≤W.heap.size) (hl:t.length≤1001) :
  Calls Tryz.prog 27 #[.pointer (some ⟨B,0,none⟩),.func (.func 28) #[] #[]] W fun e W' =>e=.returned (.bool true)∧Below lo W W' :=
 (zie mk hmark W B lo t lv wv h b hlo hl).mono (fun e w h =>⟨h.1,h.2.bl⟩)
end
section
open Go.RowKit
theorem Kz {P:Program} {ops:Array Oper} {Q:Exit→Act→World→Prop} {id:Nat} {a:Act} {w:World} (hm:P.follows .mixedOrders=true) (f:Nat) (hf:f < ops.size) (ht:zcb .any ops=true) (ha:zgB .any ops f=true) (J:Array Bool→Act→World→Prop)
  (h0:J (Array.replicate ops.size false) a w.drew)
  (hstep:∀ l a w i,J l a w→l.size=ops.size→Ym .any ops l→i ∈ Region.ready .any ops l→i≠f→wpOp P ops Q i (J (l.setIfInBounds i true)) a w)
  (hfin:∀ l a w,J l a w→(∀ j,j≠f→j < ops.size→l.getD j false=true)→wpOp P ops Q f (fun a' w' =>Q .normal a' w') a w) :
  (Code.region id ops true).wp P Q a w:=by
 refine zn hm f hf ht ha (fun l a w =>Ym .any ops l∧J l a w) ⟨fun j o ho hj =>?_,h0⟩ (fun l a w i hJ hl hi hif =>?_) (fun l a w hJ =>hfin l a w hJ.2)
 ·exfalso
  rcases Nat.lt_or_ge j ops.size with h' | h'
  ·simp [h'] at hj
  ·simp [h'] at hj
 ·exact wpOp_mono (fun a' w' hq =>⟨JY hJ.1 hi,hq⟩) (hstep l a w i hJ.2 hl hJ.1 hi hif)
theorem XA {md:Region.Mode} {ops:Array Oper} {l:Array Bool} {i:Nat} (hc:Ym md ops l) (hi:i ∈ Region.ready md ops l) (x:Nat) (o:Oper) (ho:ops[x]?=some o) (hx:(zcc md ops (List.range ops.size).reverse [x]).contains i=true) (hne:i≠x) (hlt:i < l.size):l.getD x false=false:=by
 cases hq:l.getD x false with
 | false =>rfl
 | true =>
  exfalso
  have hi0:=(mem_ready.1 hi).1;rcases YW hc x (fun k hk =>by
   obtain ⟨o',ho',e,he,hb,rfl⟩:=ZF hk;exact hc x o' ho' hq e he hb) _ _ (fun y hy =>.inl (List.mem_singleton.1 hy)) i (List.contains_iff_mem.1 hx) with h | h
  ·exact hne h
  ·rw [q9 hlt,h] at hi0;cases hi0
structure RgP (W0:World) (lo x:Nat) (D:Nat→Value→Prop) (l:Array Bool) (U:Nat→Value) (w:World):Prop where
 bel:l.getD x false=false→Below W0.heap.size W0 w
 low:Below lo W0 w
 val:∀ i,l.getD i false=true→D i (U i)
theorem RgP.start {W0:World} {lo x:Nat} {D:Nat→Value→Prop} (U:Nat→Value) (n:Nat):RgP W0 lo x D (Array.replicate n false) U W0:=by
 have h0:∀ i,(Array.replicate n false).getD i false=false:=fun i =>by
  rcases Nat.lt_or_ge i n with h' | h' <;> simp [h']
 exact ⟨fun _ =>zl,zl,fun i hi =>by (rw [h0] at hi;cases hi)⟩
theorem RgP.vals {W0:World} {lo x:Nat} {D:Nat→Value→Prop} {l:Array Bool} {U:Nat→Value} {w:World} (h:RgP W0 lo x D l U w) (i:Nat) (v:Value) (hD:D i v):∀ j,(l.setIfInBounds i true).getD j false=true→D j (za U i v j):=by
 intro j hj;by_cases hji:j=i
 ·subst hji;rw [yE];exact hD
 ·rw [getD_set_ne false (Ne.symm hji)] at hj;rw [yI _ _ hji];exact h.val j hj
theorem RgP.put {W0:World} {lo x:Nat} {D:Nat→Value→Prop} {l:Array Bool} {U:Nat→Value} {w w':World} (h:RgP W0 lo x D l U w) (hlo:lo≤W0.heap.size) (i:Nat) (hx:i≠x) (v:Value) (hb:Below w.heap.size w w') (hD:D i v) :
  RgP W0 lo x D (l.setIfInBounds i true) (za U i v) w':=by
 refine ⟨fun hl =>?_,h.low.trans (hb.mono (Nat.le_trans hlo h.low.size)),h.vals i v hD⟩;rw [getD_set_ne false hx] at hl;exact (h.bel hl).trans (hb.mono (h.bel hl).size)
theorem RgP.putX {W0:World} {lo x:Nat} {D:Nat→Value→Prop} {l:Array Bool} {U:Nat→Value} {w w':World} (h:RgP W0 lo x D l U w) (hxl:x < l.size) (v:Value) (hb:Below lo w w') (hD:D x v) :
  RgP W0 lo x D (l.setIfInBounds x true) (za U x v) w':=by
 refine ⟨fun hl =>?_,h.low.trans hb,h.vals x v hD⟩;rw [Array.getD_eq_getD_getElem?,Array.getElem?_setIfInBounds_self_of_lt hxl] at hl;cases hl
end
end Go.Proofs.YthchopdfmchpkaaGreat
