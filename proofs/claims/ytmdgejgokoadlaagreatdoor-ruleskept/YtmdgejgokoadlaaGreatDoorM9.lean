/- Texts of this claim, one behind the other. -/
import Derived.Test.YtmdgejgokoadlaaGreatDoorM8
/- cut: its zfe. -/
namespace Go.Proofs.YtmdgejgokoadlaaGreatDoor
open Go.RowKit Go.Shelf
set_option linter.unusedVariables false
theorem ziD (t:ByteArray):∀ (ps:List Nat) (x:Nat × Nat),1≤x.2→1≤(lcF t x ps).2∧(lcF t x ps).2≤x.2+ps.length∧(lcF t x ps).1≤x.1+ps.length
 | [],x,h =>⟨h,Nat.le_refl _,Nat.le_refl _⟩
 | p::ps,x,h =>by
  have h1:1≤(zcQ t x p).2∧(zcQ t x p).2≤x.2+1∧(zcQ t x p).1≤x.1+1:=by unfold zcQ;split <;> simp
  have:=ziD t ps (zcQ t x p) h1.1
  have e:lcF t x (p::ps)=lcF t (zcQ t x p) ps:=rfl
  rw [e,List.length_cons]
  omega
theorem ziE (t:ByteArray) (x:Nat × Nat) (n:Nat) (h:1≤x.2):1≤(lcB t x n).2∧(lcB t x n).2≤x.2+n∧(lcB t x n).1≤x.1+n:=by
 have h1:=ziD (t.extract 0 n) (zaw (t.extract 0 n)) x h
 have h2:=zbL (t.extract 0 n)
 have h3:(t.extract 0 n).size≤n:=by rw [ByteArray.size_extract];omega
 unfold lcB
 omega
theorem CutV.parts {R:CutV} {o:Bool} {b:Nat} {x:Nat × Nat} {ws:List Wd} (h:R=⟨o,b,x,ws⟩):R.ok=o∧R.b=b∧R.lc=x∧R.ws=ws:=by subst h;exact ⟨rfl,rfl,rfl,rfl⟩
def zew (s:ByteArray) (f b:Nat) (x:Nat × Nat) (ws:List Wd):CutV :=
 if (zac (rst s b)).ok=false then ⟨false,b+(zac (rst s b)).n,lcB (rst s b) x (zac (rst s b)).n,ws⟩
 else cutGo s f (b+(zac (rst s b)).n) (lcB (rst s b) x (zac (rst s b)).n) (ws++[⟨zac (rst s b),b,x.1,x.2,b+(zac (rst s b)).n⟩])
theorem cutGo_succ (s:ByteArray) (f b:Nat) (x:Nat × Nat) (ws:List Wd):cutGo s (f+1) b x ws=if (zd2 (rst s b)).2=false then ⟨false,gB s b,gLC s b x,ws⟩ else if (rst s (gB s b)).size=0 then ⟨true,gB s b,gLC s b x,ws⟩ else zew s f (gB s b) (gLC s b x) ws:=rfl
abbrev wd0 (b:Nat) (x:Nat × Nat):Array Value:=#[.int .i64 0,.string ByteArray.empty,.int .i32 0,.int .i64 0,.int .i64 b,.int .i64 x.1,.int .i64 x.2,.int .i64 0]
abbrev wd1 (y:WV) (b:Nat) (x:Nat × Nat):Array Value:=#[.int .i64 y.kind,.string y.S,.int .i32 y.R,.int .i64 y.N,.int .i64 b,.int .i64 x.1,.int .i64 x.2,.int .i64 0]
theorem set8 {cs:Array Value} (h:cs.size=8) (a0 a1 a2 a3 a4 a5 a6 a7:Value):(((((((cs.setIfInBounds 0 a0).setIfInBounds 1 a1).setIfInBounds 2 a2).setIfInBounds 3 a3).setIfInBounds 4 a4).setIfInBounds 5 a5).setIfInBounds 6 a6).setIfInBounds 7 a7=#[a0,a1,a2,a3,a4,a5,a6,a7]:=by
 have e:∃ b0 b1 b2 b3 b4 b5 b6 b7,cs=#[b0,b1,b2,b3,b4,b5,b6,b7]:=by
  obtain ⟨l⟩:=cs
  match l,h with
  | [b0,b1,b2,b3,b4,b5,b6,b7],_ =>exact ⟨b0,b1,b2,b3,b4,b5,b6,b7,rfl⟩
 obtain ⟨b0,b1,b2,b3,b4,b5,b6,b7,rfl⟩:=e
 simp
def PlB (s:ByteArray) (b:Nat) (x:Nat × Nat) (j:Nat):Prop:=b≤s.size∧1≤x.2∧x.2≤1+b∧x.1≤1+b∧j≤b
def cutJ (w:World) (C:Nat) (s:ByteArray) (R:CutV):Nat→Nat→Act→World→Prop
 | 0,k,a,W => ∃ (f b:Nat) (x:Nat × Nat) (ws:List Wd) (v:Value) (cs:Array Value),k=10*(s.size - b)+9∧PlB s b x ws.length∧s.size+1≤b+f∧cs.size=8∧R=cutGo s f b x ws∧CutSt w W C s b x v ws cs∧∃ U:Nat→Value,a = { tmps:=#[.pointer (some ⟨C,0,none⟩),U 1,.bool false,.pointer (some ⟨w.heap.size,0,none⟩),U 4,U 5,U 6,U 7,U 8,U 9,U 10,U 11,U 12,U 13,U 14,U 15,U 16,U 17,U 18,U 19,U 20,U 21,U 22,U 23,U 24,U 25,U 26,U 27,U 28,U 29,U 30,U 31,U 32,U 33,U 34,U 35,U 36,U 37,U 38,U 39,U 40,U 41,U 42,U 43,U 44,U 45,U 46,U 47,U 48,U 49,U 50,U 51,U 52,U 53,U 54,U 55,U 56,U 57,U 58,U 59,U 60,U 61,U 62,U 63,U 64,U 65,U 66,U 67,U 68,U 69,U 70,U 71,U 72,U 73,U 74,U 75,U 76,U 77,U 78,U 79,U 80,U 81,U 82,U 83,U 84,U 85,U 86,U 87,U 88,U 89,U 90,U 91,U 92,U 93,U 94,U 95,U 96,U 97,U 98,U 99,U 100,U 101,U 102,U 103,U 104,U 105,U 106,U 107,U 108,U 109,U 110,U 111,U 112,U 113],defers := [] }
 | 5,k,a,W => ∃ (f b:Nat) (x:Nat × Nat) (ws:List Wd) (v:Value) (cs:Array Value),k=10*(s.size - b)+2∧PlB s b x ws.length∧s.size+1≤b+1+f∧0 < (rst s b).size∧cs.size=8∧((zac (rst s b)).ok=true→cs=wd1 (zac (rst s b)) b x)∧R=zew s f b x ws∧CutSt w W C s b x v ws cs∧∃ U:Nat→Value,a = { tmps:=#[.pointer (some ⟨C,0,none⟩),U 1,.bool false,.pointer (some ⟨w.heap.size,0,none⟩),.string (rst s b),.int .i64 ((zac (rst s b)).n:Nat),.bool (zac (rst s b)).ok,U 7,U 8,U 9,U 10,U 11,U 12,U 13,U 14,U 15,U 16,U 17,U 18,U 19,U 20,U 21,U 22,U 23,U 24,U 25,U 26,U 27,U 28,U 29,U 30,U 31,U 32,U 33,U 34,U 35,U 36,U 37,U 38,U 39,U 40,U 41,U 42,U 43,U 44,U 45,U 46,U 47,U 48,U 49,U 50,U 51,U 52,U 53,U 54,U 55,U 56,U 57,U 58,U 59,U 60,U 61,U 62,U 63,U 64,U 65,U 66,U 67,U 68,U 69,U 70,U 71,U 72,U 73,U 74,U 75,U 76,U 77,U 78,U 79,U 80,U 81,U 82,U 83,U 84,U 85,U 86,U 87,U 88,U 89,U 90,U 91,U 92,U 93,U 94,U 95,U 96,U 97,U 98,U 99,U 100,U 101,U 102,U 103,U 104,U 105,U 106,U 107,U 108,U 109,U 110,U 111,U 112,U 113],defers := [] }
 | 6,k,a,W => ∃ (f b:Nat) (x:Nat × Nat) (ws:List Wd) (v:Value),k=10*(s.size - b)+3∧PlB s b x ws.length∧s.size+1≤b+1+f∧0 < (rst s b).size∧(zac (rst s b)).ok=za9 (rst s b) (zac (rst s b)).n∧R=zew s f b x ws∧CutSt w W C s b x v ws (wd1 (zac (rst s b)) b x)∧∃ U:Nat→Value,a = { tmps:=#[.pointer (some ⟨C,0,none⟩),U 1,.bool false,.pointer (some ⟨w.heap.size,0,none⟩),.string (rst s b),.int .i64 ((zac (rst s b)).n:Nat),U 6,U 7,U 8,U 9,U 10,U 11,U 12,U 13,U 14,U 15,U 16,U 17,U 18,U 19,U 20,U 21,U 22,U 23,U 24,U 25,U 26,U 27,U 28,U 29,U 30,U 31,U 32,U 33,U 34,U 35,U 36,U 37,U 38,U 39,U 40,U 41,U 42,U 43,U 44,U 45,U 46,U 47,U 48,U 49,U 50,U 51,U 52,U 53,U 54,U 55,U 56,U 57,U 58,U 59,U 60,U 61,U 62,U 63,U 64,U 65,U 66,U 67,U 68,U 69,U 70,U 71,U 72,U 73,U 74,U 75,U 76,U 77,U 78,U 79,U 80,U 81,U 82,U 83,U 84,U 85,U 86,U 87,U 88,U 89,U 90,U 91,U 92,U 93,U 94,U 95,U 96,U 97,U 98,U 99,U 100,U 101,U 102,U 103,U 104,U 105,U 106,U 107,U 108,U 109,U 110,U 111,U 112,U 113],defers := [] }
 | l,k,a,W =>(1≤l∧l≤4)∧∃ (f b:Nat) (x:Nat × Nat) (ws:List Wd) (v:Value),k=10*(s.size - b)+5∧PlB s b x ws.length∧s.size+1≤b+1+f∧0 < (rst s b).size ∧
   ((l=1∧zaP (bt (rst s b) 0)=true)∨(l=2∧zaP (bt (rst s b) 0)=false∧zcr (bt (rst s b) 0)=true)∨(l=3∧bt (rst s b) 0=85)∨(l=4∧bt (rst s b) 0=39))∧R=zew s f b x ws∧CutSt w W C s b x v ws (wd0 b x)∧∃ U:Nat→Value,a = { tmps:=#[.pointer (some ⟨C,0,none⟩),U 1,.bool false,.pointer (some ⟨w.heap.size,0,none⟩),.string (rst s b),U 5,U 6,U 7,U 8,U 9,U 10,U 11,U 12,U 13,U 14,U 15,U 16,U 17,U 18,U 19,U 20,U 21,U 22,U 23,U 24,U 25,U 26,U 27,U 28,U 29,U 30,U 31,U 32,U 33,U 34,U 35,U 36,U 37,U 38,U 39,U 40,U 41,U 42,U 43,U 44,U 45,U 46,U 47,U 48,U 49,U 50,U 51,U 52,U 53,U 54,U 55,U 56,U 57,U 58,U 59,U 60,U 61,U 62,U 63,U 64,U 65,U 66,U 67,U 68,U 69,U 70,U 71,U 72,U 73,U 74,U 75,U 76,U 77,U 78,U 79,U 80,U 81,U 82,U 83,U 84,U 85,U 86,U 87,U 88,U 89,U 90,U 91,U 92,U 93,U 94,U 95,U 96,U 97,U 98,U 99,U 100,U 101,U 102,U 103,U 104,U 105,U 106,U 107,U 108,U 109,U 110,U 111,U 112,U 113],defers := [] }
set_option maxRecDepth 100000 in
set_option maxHeartbeats 16000000 in
theorem zg3 (C:Nat) (s:ByteArray) (hs:s.size≤262144) (m:Int) (w:World) (h:Blk w C (ziY s (0:Nat) (1:Nat) (1:Nat) (.slice none 0 0)) 135) (hm:w.cell? ⟨7,0,none⟩=some (.int .i64 m)) (hg:7 < C) (R:CutV) (hR:R=cutGo s (s.size+1) 0 (1,1) []) :
  Calls Tryz.prog 57 #[.pointer (some ⟨C,0,none⟩)] w fun e w' =>e=.returned (.bool R.ok)∧∃ v cs,CutSt w w' C s R.b R.lc v R.ws cs:=by
 have HB:=kz h
 have HM:=kz hm
 have HR:=kz hR
 clear h hm hR
 go_enter Tryz.func57,Tryz.ntmps57
 go_wp2
 refine zhS (cutJ w C s R) ⟨_,rfl, ?zero, ?first⟩ ⟨_,rfl, ?five, ?six⟩ ?pass
 case first =>
  intro hp
  have hC:=(oz HB).lt
  have hal:=(Below.refl w.heap.size w).alloc (Nat.le_refl _) (.cells #[.int .i64 0,.string ⟨#[]⟩,.int .i32 0,.int .i64 0,.int .i64 0,.int .i64 0,.int .i64 0,.int .i64 0] 147)
  have HST:Hz (CutSt w (w.alloc (.cells #[.int .i64 0,.string ⟨#[]⟩,.int .i32 0,.int .i64 0,.int .i64 0,.int .i64 0,.int .i64 0,.int .i64 0] 147)) C s 0 (1,1) (.slice none 0 0) [] #[.int .i64 0,.string ⟨#[]⟩,.int .i32 0,.int .i64 0,.int .i64 0,.int .i64 0,.int .i64 0,.int .i64 0]):=kz ⟨(oz HB).below hal hC,Blk.new w _ _,World.ownsRow_nil _ _ _ _,⟨hal.os,hal.tape,hal.output,hal.size,fun k hk _ =>hal.block k hk⟩,hC⟩
  have HP:=kz hp
  clear hp hal
  go_wp2
  rename_i K hK
  go_step3
  apply hK
  clear hK
  exact oz HP (10*(s.size - 0)+9) _ _ ⟨s.size+1,0,(1,1),[],.slice none 0 0,_,rfl,⟨Nat.zero_le _,by decide,by decide,by decide,Nat.zero_le _⟩,by omega,rfl,oz HR,oz HST,zc3 rfl⟩
 case zero =>
  rintro k a W ⟨f,b,x,ws,v,cs,hk,hpl,hfu,hcs,hRe,hst,U,ha⟩
  subst ha
  obtain ⟨f,rfl⟩:∃ g,f=g+1:=⟨f - 1,by have:=hpl.1;omega⟩
  rw [cutGo_succ] at hRe
  have hb0:=hpl.1
  have hgl:=gapV_le (rst s b)
  have hrz:=zah s b
  have hgB:=ziM s b hb0
  have hMW:∀ W',w.grownBy W' (some C)→W'.cell? ⟨7,0,none⟩=some (.int .i64 m):=fun W' hgr =>(World.cell?_of_block (a:=⟨7,0,none⟩) (hgr.block 7 (by have:=hst.lt;omega) (fun e =>by have:=Option.some.inj e;omega))).trans (oz HM)
  have hMg:7 < W.heap.size:=by have:=hst.lt;have:=hst.gr.size;omega
  have hrest:=zhx C s b hb0 (by omega) x.1 x.2 v W hst.blk
  have hgap:=fun q =>gap_any (rst s b) (by omega) m (W.drewN q) (hMW _ (hst.drew q).gr) hMg
  obtain ⟨n0,hn0⟩:∃ n0,n0=(zd2 (rst s b)).1:=⟨_,rfl⟩
  obtain ⟨o0,ho0⟩:∃ o0,o0=(zd2 (rst s b)).2:=⟨_,rfl⟩
  rw [← ho0] at hRe
  have hgv:zd2 (rst s b)=(n0,o0):=by rw [hn0,ho0]
  simp only [hgv] at hgap
  have hbn:b+n0≤s.size:=by rw [hn0];omega
  have hpass:=fun W' (h:Blk W' C (ziY s b x.1 x.2 v) 135) =>zke C s b n0 hbn (by omega) x.1 x.2 (by have:=hpl.2.2.2;omega) (by have:=hpl.2.2.1;omega) v W' h
  have HST:=kz hst
  have HRE:=kz hRe
  have HRS:=kz hrest
  have HGP:=kz hgap
  have HPS:=kz hpass
  have HPL:=kz hpl
  have HN0:=kz hn0
  have HHK:=kz hk
  have hgb0:gB s b=b+n0:=by unfold gB;rw [hn0]
  have HGB:=kz hgb0
  have hlc0:gLC s b x=lcB (rst s b) x n0:=by unfold gLC;rw [hn0]
  have HLC:=kz hlc0
  clear hst hRe hrest hgap hpass hpl hn0 ho0 hgv hk hgb0 hlc0 hMW hgl hrz
  go_wp2_with fail
  refine (oz HRS).mono ?_
  rintro e w1 ⟨rfl,q,rfl⟩
  go_wp2_with fail
  refine (oz HGP q).mono ?_
  rintro e w2 ⟨rfl,hb⟩
  have HS2:=kz (((oz HST).drew q).below hb)
  clear hb HRS HGP HST
  go_wp2_with fail
  refine (oz HPS w2 (oz HS2).blk).mono ?_
  rintro e w3 ⟨rfl,hblk,hgr⟩
  have HS3:=kz ((oz HS2).pass (x':=lcB (rst s b) x n0) hblk hgr)
  clear hblk hgr HPS HS2
  cases o0 with
  | false =>
   have hRe:=oz HRE
   have HRF:Hz (R=⟨false,gB s b,gLC s b x,ws⟩):=kz (by rw [hRe,if_pos rfl])
   clear hRe HRE
   go_wp2_with fail
   show Exit.noGoto _ Exit.ret _ _
   rw [Exit.noGoto_ret]
   go_ret
   obtain ⟨r1,r2,r3,r4⟩:=CutV.parts (oz HRF)
   have h3:=oz HS3
   rw [← oz HLC, ← oz HGB] at h3
   rw [r1,r2,r3,r4]
   exact ⟨rfl,v,cs,h3⟩
  | true =>
   have hRe:=oz HRE
   have HR2:Hz (R=if (rst s (gB s b)).size=0 then ⟨true,gB s b,gLC s b x,ws⟩ else zew s f (gB s b) (gLC s b x) ws):=kz (by rw [hRe,if_neg (by decide)])
   have h3:=oz HS3
   rw [← oz HLC, ← oz HGB] at h3
   obtain ⟨b1,hb1⟩:∃ b1,b1=gB s b:=⟨_,rfl⟩
   obtain ⟨x1,hx1⟩:∃ x1,x1=gLC s b x:=⟨_,rfl⟩
   have hbd:=ziE (rst s b) x n0 (oz HPL).2.1
   rw [← oz HLC] at hbd
   have hpl1:PlB s b1 x1 ws.length:=by
    have hq:=(oz HPL)
    have hg0:=oz HGB
    rw [hb1,hx1]
    exact ⟨hgB.2,hbd.1,by have:=hq.2.2.1;omega,by have:=hq.2.2.2;omega,by have:=hq.2.2.2;omega⟩
   have hb1s:b1≤s.size:=hpl1.1
   have hbb1:b≤b1:=by rw [hb1];exact hgB.1
   rw [← hb1, ← hx1] at h3
   have HR3:Hz (R=if (rst s b1).size=0 then ⟨true,b1,x1,ws⟩ else zew s f b1 x1 ws):=kz (by rw [hb1,hx1];exact oz HR2)
   have HS4:=kz h3
   have HPL1:=kz hpl1
   clear hRe HRE HR2 h3 hb1 hx1 hbd hpl1 HS3 HLC HGB HPL hgB HN0 hbn
   have c1:=(oz HS4).blk.cell 1
   have c2:=(oz HS4).blk.cell 2
   have c3:=(oz HS4).blk.cell 3
   have HBL:Hz (Blk w3.drew C (ziY s b1 x1.1 x1.2 v) 135):=kz (oz HS4).blk
   have g0:=(oz HS4).box.frozen
   have k0:=(oz HS4).box.cell
   go_wp2_with fail
   go_region_with ((go_at_call 96;refine (zhx C s b1 hb1s (by omega) x1.1 x1.2 v _ (oz HBL)).mono ?_;rintro e w' ⟨rfl,q,rfl⟩))
   all_goals
    have h5:=(((((((((oz HS4).drew (1+q)).set 0 (.int .i64 0)).set 1 (.string ⟨#[]⟩)).set 2 (.int .i32 0)).set 3 (.int .i64 0)).set 4 (.int .i64 b1)).set 5 (.int .i64 x1.1)).set 6 (.int .i64 x1.2)).set 7 (.int .i64 0)
    rw [set8 hcs] at h5
    have HS6:Hz (CutSt w _ C s b1 x1 v ws (wd0 b1 x1)):=kz h5
    clear h5 c1 c2 c3 g0 k0 HBL HS4
    generalize (((((((((w3.drewN (1+q)).setCell ⟨w.heap.size,0,none⟩ (.int .i64 0)).setCell ⟨w.heap.size,1,none⟩ (.string ⟨#[]⟩)).setCell ⟨w.heap.size,2,none⟩ (.int .i32 0)).setCell ⟨w.heap.size,3,none⟩ (.int .i64 0)).setCell ⟨w.heap.size,4,none⟩ (.int .i64 b1)).setCell ⟨w.heap.size,5,none⟩ (.int .i64 x1.1)).setCell ⟨w.heap.size,6,none⟩ (.int .i64 x1.2)).setCell ⟨w.heap.size,7,none⟩ (.int .i64 0))=W5 at *
    have hrz1:=zah s b1
    by_cases hz1:0 < (rst s b1).size
    ·have hne:=zdQ (rst s b1) hz1
     have hbt:=zaz (rst s b1) 0 hz1
     have HZP:=kz hz1
     have HRW:Hz (R=zew s f b1 x1 ws):=kz (by rw [oz HR3,if_neg (by omega)])
     clear HR3
     have hne':((rst s b1).toList == [])=false:=by simpa using hne
     clear hne
     cases hsm:zaP (bt (rst s b1) 0) with
     | true =>
      have HF:=kz hsm
      rw [hbt] at hsm
      clear hbt
      go_wp2_with (first | (go_at_call 98;refine (zbG _ _).mono ?_;rintro e w' ⟨rfl,rfl⟩) | (go_at_call 99;refine (za7 _ _).mono ?_;rintro e w' ⟨rfl,rfl⟩))
      go_step3
      exact ⟨10*(s.size - b1)+5,by have:=oz HHK;omega,⟨by omega,by omega⟩,f,b1,x1,ws,v,rfl,oz HPL1,by omega,oz HZP,.inl ⟨rfl,oz HF⟩,oz HRW,oz HS6,zc3 rfl⟩
     | false =>
      cases hdg:zcr (bt (rst s b1) 0) with
      | true =>
       have HF:=kz (And.intro hsm hdg)
       rw [hbt] at hsm hdg
       clear hbt
       go_wp2_with (first | (go_at_call 98;refine (zbG _ _).mono ?_;rintro e w' ⟨rfl,rfl⟩) | (go_at_call 99;refine (za7 _ _).mono ?_;rintro e w' ⟨rfl,rfl⟩))
       go_step3
       exact ⟨10*(s.size - b1)+5,by have:=oz HHK;omega,⟨by omega,by omega⟩,f,b1,x1,ws,v,rfl,oz HPL1,by omega,oz HZP,.inr (.inl ⟨rfl,(oz HF).1,(oz HF).2⟩),oz HRW,oz HS6,zc3 rfl⟩
      | false =>
       by_cases h85:bt (rst s b1) 0=85
       ·have HF:=kz h85
        have h85':((((rst s b1)[0]'hz1).toNat:Int) == 85)=true:=by rw [← hbt,h85];rfl
        rw [hbt] at hsm hdg
        clear hbt h85
        go_wp2_with (first | (go_at_call 98;refine (zbG _ _).mono ?_;rintro e w' ⟨rfl,rfl⟩) | (go_at_call 99;refine (za7 _ _).mono ?_;rintro e w' ⟨rfl,rfl⟩))
        go_step3
        exact ⟨10*(s.size - b1)+5,by have:=oz HHK;omega,⟨by omega,by omega⟩,f,b1,x1,ws,v,rfl,oz HPL1,by omega,oz HZP,.inr (.inr (.inl ⟨rfl,oz HF⟩)),oz HRW,oz HS6,zc3 rfl⟩
       ·have h85':((((rst s b1)[0]'hz1).toNat:Int) == 85)=false:=by rw [beq_eq_false_iff_ne, ← hbt];omega
        by_cases h39:bt (rst s b1) 0=39
        ·have HF:=kz h39
         have h39':((((rst s b1)[0]'hz1).toNat:Int) == 39)=true:=by rw [← hbt,h39];rfl
         rw [hbt] at hsm hdg
         clear hbt h85 h39
         go_wp2_with (first | (go_at_call 98;refine (zbG _ _).mono ?_;rintro e w' ⟨rfl,rfl⟩) | (go_at_call 99;refine (za7 _ _).mono ?_;rintro e w' ⟨rfl,rfl⟩))
         go_step3
         exact ⟨10*(s.size - b1)+5,by have:=oz HHK;omega,⟨by omega,by omega⟩,f,b1,x1,ws,v,rfl,oz HPL1,by omega,oz HZP,.inr (.inr (.inr ⟨rfl,oz HF⟩)),oz HRW,oz HS6,zc3 rfl⟩
        ·have h39':((((rst s b1)[0]'hz1).toNat:Int) == 39)=false:=by rw [beq_eq_false_iff_ne, ← hbt];omega
         have hwv:zac (rst s b1)=⟨(zck (rst s b1)).1,ByteArray.empty,0,0,(zck (rst s b1)).2.1,(zck (rst s b1)).2.2⟩:=by unfold zac;rw [if_neg (by rw [hsm];decide),if_neg (by rw [hdg];decide),if_neg h85,if_neg h39]
         have HWV:=kz hwv
         rw [hbt] at hsm hdg
         clear hbt h85 h39 hwv
         go_wp2_with (first | (go_at_call 98;refine (zbG _ _).mono ?_;rintro e w' ⟨rfl,rfl⟩) | (go_at_call 99;refine (za7 _ _).mono ?_;rintro e w' ⟨rfl,rfl⟩))
         refine (sign_any (rst s b1) hz1 _).mono ?_
         rintro e w6 ⟨rfl,rfl⟩
         have k0:=(oz HS6).box.cell 0
         have f0:=(oz HS6).box.frozen 0
         have HS7:=kz ((oz HS6).set 0 (.int .i64 ((zck (rst s b1)).1:Nat)))
         have e1:(zac (rst s b1)).n=(zck (rst s b1)).2.1:=by rw [oz HWV]
         have e2:(zac (rst s b1)).ok=(zck (rst s b1)).2.2:=by rw [oz HWV]
         have HE:=kz (And.intro e1 e2)
         clear e1 e2
         go_wp2_with fail
         go_step3
         refine ⟨10*(s.size - b1)+2,by have:=oz HHK;omega,f,b1,x1,ws,v,_,rfl,oz HPL1,by omega,oz HZP,rfl,fun _ =>?_,oz HRW,oz HS7, ?_⟩
         ·rw [oz HWV];rfl
         ·rw [(oz HE).1,(oz HE).2];exact zc3 rfl
    ·have he:rst s b1=ByteArray.empty:=za4 _ (by omega)
     have hte:((rst s b1).toList == [])=true:=by rw [he,ByteArray.toList_eq];rfl
     have HRF:Hz (R=⟨true,b1,x1,ws⟩):=kz (by rw [oz HR3,if_pos (by omega)])
     clear HR3 he hz1
     go_wp2_with fail
     show Exit.noGoto _ Exit.ret _ _
     rw [Exit.noGoto_ret]
     go_ret
     obtain ⟨r1,r2,r3,r4⟩:=CutV.parts (oz HRF)
     rw [r1,r2,r3,r4]
     exact ⟨rfl,v,_,oz HS6⟩
 case pass =>
  rintro l k a W hl4 hl5 hJ
  match l,hJ,hl4,hl5 with
  | 0,⟨_,f,b,x,ws,v,hk,hpl,hfu,hz,hcase,hRe,hst,U,ha⟩,_,_ =>
   subst ha
   refine ⟨_,rfl, ?_⟩
   have hsm:zaP (bt (rst s b) 0)=true:=by
    rcases hcase with h | h | h | h
    ·exact h.2
    ·omega
    ·omega
    ·omega
   have hwv:zac (rst s b)=⟨1,(rst s b).extract 0 (zao (rst s b)),0,0,zao (rst s b),za9 (rst s b) (zao (rst s b))⟩:=by unfold zac;rw [if_pos hsm]
   have hrz:=zah s b
   have hnl:=(zdm (rst s b)).1
   have hnm:=ziy (rst s b) (by unfold maxLen;omega) W
   obtain ⟨n,hn⟩:∃ n,n=zao (rst s b):=⟨_,rfl⟩
   rw [← hn] at hwv hnl hnm
   have hn1:(n:Int)≤((rst s b).size:Int):=by omega
   have hn2:((n:Nat):Int).toNat=n:=by omega
   have k0:=hst.box.cell 0
   have k1:=hst.box.cell 1
   have f0:=hst.box.frozen 0
   have f1:=hst.box.frozen 1
   have HNM:=kz hnm
   have HWV:=kz hwv
   have H0:=kz (And.intro hk (And.intro hpl (And.intro hfu (And.intro hz hRe))))
   have HST:=kz hst
   clear hnm hwv hk hpl hfu hz hRe hst hcase hn
   go_wp2_with fail
   refine (oz HNM).mono ?_
   rintro e w1 ⟨rfl,rfl⟩
   go_wp2_with fail
   go_region_with (fail)
   all_goals
    have h5:=(((oz HST).set 0 (.int .i64 1)).set 1 (.string ((rst s b).extract 0 n))).drew1
    have HS7:=kz h5
    have e1:(zac (rst s b)).n=n:=by rw [oz HWV]
    have e2:(zac (rst s b)).ok=za9 (rst s b) (zac (rst s b)).n:=by rw [oz HWV]
    have HE:=kz (And.intro e1 e2)
    clear h5 e1 e2 k0 k1 f0 f1 HST
    generalize ((w1.setCell ⟨w.heap.size,0,none⟩ (.int .i64 1)).setCell ⟨w.heap.size,1,none⟩ (.string ((rst s b).extract 0 n))).drew=W5 at *
    go_wp2_with fail
    go_step3
    obtain ⟨hk,hpl,hfu,hz,hRe⟩:=oz H0
    refine ⟨10*(s.size - b)+3,by omega,f,b,x,ws,v,rfl,hpl,hfu,hz,(oz HE).2,hRe, ?_, ?_⟩
    ·exact CutSt.as (oz HS7) (by rw [oz HWV];simp)
    ·rw [(oz HE).1];exact zc3 rfl
  | 1,⟨_,f,b,x,ws,v,hk,hpl,hfu,hz,hcase,hRe,hst,U,ha⟩,_,_ =>
   subst ha
   refine ⟨_,rfl, ?_⟩
   have hsd:zaP (bt (rst s b) 0)=false∧zcr (bt (rst s b) 0)=true:=by
    rcases hcase with h | h | h | h
    ·omega
    ·exact h.2
    ·omega
    ·omega
   have hwv:zac (rst s b)=⟨2,ByteArray.empty,0,(zcH (rst s b)).1,(zcH (rst s b)).2,za9 (rst s b) (zcH (rst s b)).2⟩:=by unfold zac;rw [if_neg (by rw [hsd.1];decide),if_pos hsd.2]
   have hrz:=zah s b
   have hnm:=fun W' =>number_any (rst s b) (by omega) hz hsd.2 W'
   obtain ⟨n,hn⟩:∃ n,n=(zcH (rst s b)).2:=⟨_,rfl⟩
   obtain ⟨y,hy⟩:∃ y,y=(zcH (rst s b)).1:=⟨_,rfl⟩
   rw [← hn, ← hy] at hwv
   simp only [← hn, ← hy] at hnm
   have h1:=hst.set 0 (.int .i64 2)
   have k0:=hst.box.cell 0
   have f0:=hst.box.frozen 0
   have k3:=h1.box.cell 3
   have f3:=h1.box.frozen 3
   have HS7:=kz (h1.set 3 (.int .i64 y))
   have HNM:=kz hnm
   have HWV:=kz hwv
   have H0:=kz (And.intro hk (And.intro hpl (And.intro hfu (And.intro hz hRe))))
   clear hnm hwv hk hpl hfu hz hRe hst hcase hn hy h1 hsd
   go_wp2_with fail
   refine (oz HNM _).mono ?_
   rintro e w1 ⟨rfl,rfl⟩
   have e1:(zac (rst s b)).n=n:=by rw [oz HWV]
   have e2:(zac (rst s b)).ok=za9 (rst s b) (zac (rst s b)).n:=by rw [oz HWV]
   have HE:=kz (And.intro e1 e2)
   clear e1 e2
   go_wp2_with fail
   go_step3
   obtain ⟨hk,hpl,hfu,hz,hRe⟩:=oz H0
   refine ⟨10*(s.size - b)+3,by omega,f,b,x,ws,v,rfl,hpl,hfu,hz,(oz HE).2,hRe, ?_, ?_⟩
   ·exact CutSt.as (oz HS7) (by rw [oz HWV];simp)
   ·rw [(oz HE).1];exact zc3 rfl
  | 2,⟨_,f,b,x,ws,v,hk,hpl,hfu,hz,hcase,hRe,hst,U,ha⟩,_,_ =>
   subst ha
   refine ⟨_,rfl, ?_⟩
   have h85:bt (rst s b) 0=85:=by
    rcases hcase with h | h | h | h
    ·omega
    ·omega
    ·exact h.2
    ·omega
   have hwv:zac (rst s b)=⟨3,ByteArray.empty,(zax (rst s b)).1,0,(zax (rst s b)).2.1,(zax (rst s b)).2.2 && za9 (rst s b) (zax (rst s b)).2.1⟩:=by unfold zac;rw [h85,if_neg (by decide),if_neg (by decide),if_pos rfl]
   have hrz:=zah s b
   have hnm:=fun W' =>ziv (rst s b) (by omega) W'
   obtain ⟨y,n,o,hno⟩:∃ y n o,zax (rst s b)=(y,n,o):=prod3 _
   rw [hno] at hwv
   simp only [hno] at hnm
   have h1:=hst.set 0 (.int .i64 3)
   have k0:=hst.box.cell 0
   have f0:=hst.box.frozen 0
   have k2:=h1.box.cell 2
   have f2:=h1.box.frozen 2
   have HS7:=kz (h1.set 2 (.int .i32 y))
   have HNM:=kz hnm
   have HWV:=kz hwv
   have H0:=kz (And.intro hk (And.intro hpl (And.intro hfu (And.intro hz hRe))))
   clear hnm hwv hk hpl hfu hz hRe hst hcase hno h1 h85
   go_wp2_with fail
   refine (oz HNM _).mono ?_
   rintro e w1 ⟨rfl,rfl⟩
   cases o with
   | true =>
    have e1:(zac (rst s b)).n=n:=by rw [oz HWV]
    have e2:(zac (rst s b)).ok=za9 (rst s b) (zac (rst s b)).n:=by rw [oz HWV];rfl
    have HE:=kz (And.intro e1 e2)
    clear e1 e2
    go_wp2_with fail
    go_step3
    obtain ⟨hk,hpl,hfu,hz,hRe⟩:=oz H0
    refine ⟨10*(s.size - b)+3,by omega,f,b,x,ws,v,rfl,hpl,hfu,hz,(oz HE).2,hRe, ?_, ?_⟩
    ·exact CutSt.as (oz HS7) (by rw [oz HWV];simp)
    ·rw [(oz HE).1];exact zc3 rfl
   | false =>
    have e1:(zac (rst s b)).n=n:=by rw [oz HWV]
    have e2:(zac (rst s b)).ok=false:=by rw [oz HWV];rfl
    have HE:=kz (And.intro e1 e2)
    clear e1 e2
    go_wp2_with fail
    go_step3
    obtain ⟨hk,hpl,hfu,hz,hRe⟩:=oz H0
    refine ⟨10*(s.size - b)+2,by omega,f,b,x,ws,v,_,rfl,hpl,hfu,hz,rfl,fun h =>absurd ((oz HE).2.symm.trans h) (by decide),hRe,oz HS7, ?_⟩
    rw [(oz HE).1,(oz HE).2];exact zc3 rfl
  | 3,⟨_,f,b,x,ws,v,hk,hpl,hfu,hz,hcase,hRe,hst,U,ha⟩,_,_ =>
   subst ha
   refine ⟨_,rfl, ?_⟩
   have h39:bt (rst s b) 0=39:=by
    rcases hcase with h | h | h | h
    ·omega
    ·omega
    ·omega
    ·exact h.2
   have hwv:zac (rst s b)=⟨3,ByteArray.empty,(zcV (rst s b)).1,0,(zcV (rst s b)).2.1,(zcV (rst s b)).2.2⟩:=by unfold zac;rw [h39,if_neg (by decide),if_neg (by decide),if_neg (by decide),if_pos rfl]
   have hrz:=zah s b
   have hnm:=fun W' =>zlq (rst s b) (by omega) hz W'
   obtain ⟨y,n,o,hno⟩:∃ y n o,zcV (rst s b)=(y,n,o):=prod3 _
   rw [hno] at hwv
   simp only [hno] at hnm
   have h1:=hst.set 0 (.int .i64 3)
   have k0:=hst.box.cell 0
   have f0:=hst.box.frozen 0
   have HS6:=kz h1
   have HNM:=kz hnm
   have HWV:=kz hwv
   have H0:=kz (And.intro hk (And.intro hpl (And.intro hfu (And.intro hz hRe))))
   clear hnm hwv hk hpl hfu hz hRe hst hcase hno h1 h39
   go_wp2_with fail
   refine (oz HNM _).mono ?_
   rintro e w1 ⟨rfl,hb⟩
   have h2:=(oz HS6).below hb
   have k2:=h2.box.cell 2
   have f2:=h2.box.frozen 2
   have HS7:=kz (h2.set 2 (.int .i32 y))
   have e1:(zac (rst s b)).n=n:=by rw [oz HWV]
   have e2:(zac (rst s b)).ok=o:=by rw [oz HWV]
   have HE:=kz (And.intro e1 e2)
   clear e1 e2 hb h2 k0 f0 HS6
   go_wp2_with fail
   go_step3
   obtain ⟨hk,hpl,hfu,hz,hRe⟩:=oz H0
   refine ⟨10*(s.size - b)+2,by omega,f,b,x,ws,v,_,rfl,hpl,hfu,hz,rfl,fun h =>?_,hRe,oz HS7, ?_⟩
   ·rw [oz HWV];simp
   ·rw [(oz HE).1,(oz HE).2];exact zc3 rfl
  | 4,hJ,h4,_ =>exact absurd rfl h4
  | 5,hJ,_,h5 =>exact absurd rfl h5
  | n+6,⟨h,_⟩,_,_ =>omega
 case six =>
  rintro h5 k a W ⟨f,b,x,ws,v,hk,hpl,hfu,hz,hok,hRe,hst,U,ha⟩
  subst ha
  refine ⟨_,rfl, ?_⟩
  have hrz:=zah s b
  have hnl:=(zb0 (rst s b) hz).1
  obtain ⟨n,hn⟩:∃ n,n=(zac (rst s b)).n:=⟨_,rfl⟩
  have hok2:(zac (rst s b)).ok=za9 (rst s b) n:=by rw [hn];exact hok
  rw [← hn] at hnl
  rw [← hn]
  have H5:=kz h5
  have HST:=kz hst
  have H0:=kz (And.intro hk (And.intro hpl (And.intro hfu (And.intro hz hRe))))
  have HOK:=kz hok2
  have HN:=kz hn
  clear h5 hst hk hpl hfu hRe hok hok2 hn
  obtain ⟨t,ht⟩:∃ t,t=rst s b:=⟨_,rfl⟩
  have fin:∀ (o:Bool) (a':Act),o=za9 t n→(∃ U:Nat→Value,a' = { tmps:=#[.pointer (some ⟨C,0,none⟩),U 1,.bool false,.pointer (some ⟨w.heap.size,0,none⟩),.string t,.int .i64 n,.bool o,U 7,U 8,U 9,U 10,U 11,U 12,U 13,U 14,U 15,U 16,U 17,U 18,U 19,U 20,U 21,U 22,U 23,U 24,U 25,U 26,U 27,U 28,U 29,U 30,U 31,U 32,U 33,U 34,U 35,U 36,U 37,U 38,U 39,U 40,U 41,U 42,U 43,U 44,U 45,U 46,U 47,U 48,U 49,U 50,U 51,U 52,U 53,U 54,U 55,U 56,U 57,U 58,U 59,U 60,U 61,U 62,U 63,U 64,U 65,U 66,U 67,U 68,U 69,U 70,U 71,U 72,U 73,U 74,U 75,U 76,U 77,U 78,U 79,U 80,U 81,U 82,U 83,U 84,U 85,U 86,U 87,U 88,U 89,U 90,U 91,U 92,U 93,U 94,U 95,U 96,U 97,U 98,U 99,U 100,U 101,U 102,U 103,U 104,U 105,U 106,U 107,U 108,U 109,U 110,U 111,U 112,U 113],defers := [] })→cutJ w C s R 5 (10*(s.size - b)+2) a' W:=by
   rintro o a' ho ⟨U,rfl⟩
   obtain ⟨hk,hpl,hfu,hz,hRe⟩:=oz H0
   refine ⟨f,b,x,ws,v,_,rfl,hpl,hfu,hz,rfl,fun _ =>rfl,hRe,oz HST,U, ?_⟩
   rw [← oz HN,oz HOK,ho,ht]
  have FIN:=kz fin
  have hnl2:n≤t.size:=by rw [ht];exact hnl
  have HH0:=kz (oz H0).1
  rw [← ht]
  clear fin hnl hrz hz ht HOK HN HST
  by_cases hns:n=t.size
  ·have he:za9 t n=true:=by unfold za9;rw [decide_eq_true hns];rfl
   have HE:=kz he
   subst hns
   have hns':((t.size:Int) == (t.size:Int))=true:=by simp
   clear he
   go_wp2_with fail
   rename_i K hK
   go_step3
   apply hK
   refine zfd (oz H5 (10*(s.size - b)+2) _ _ (oz FIN true _ (oz HE).symm (zc3 rfl))) ?_
   exact fun l a w ⟨k',hlt,hk'⟩ =>⟨k',by have:=oz HH0;omega,hk'⟩
  ·have hlt:n < t.size:=by omega
   have hbt:=zaz t n hlt
   have he:za9 t n = !zdN (bt t n):=by unfold za9;rw [decide_eq_false hns];rfl
   rw [hbt] at he
   have hns':((n:Int) == (t.size:Int))=false:=by rw [beq_eq_false_iff_ne];omega
   have hi1:(n:Int) < (t.size:Int):=by omega
   have hi2:((n:Nat):Int).toNat=n:=by omega
   have HE:=kz he
   clear hns he hbt
   go_wp2_with fail
   refine (zk2 _ _).mono ?_
   rintro e w1 ⟨rfl,rfl⟩
   go_wp2_with fail
   rename_i K hK
   go_step3
   apply hK
   refine zfd (oz H5 (10*(s.size - b)+2) _ _ (oz FIN _ _ (oz HE).symm (zc3 rfl))) ?_
   exact fun l a w ⟨k',hlt,hk'⟩ =>⟨k',by have:=oz HH0;omega,hk'⟩
 case five =>
  rintro k a W ⟨f,b,x,ws,v,cs,hk,hpl,hfu,hz,hcs,hw1,hRe,hst,U,ha⟩
  subst ha
  have hrz:=zah s b
  have hle:=zb0 (rst s b) hz
  obtain ⟨n,hn⟩:∃ n,n=(zac (rst s b)).n:=⟨_,rfl⟩
  obtain ⟨o,ho⟩:∃ o,o=(zac (rst s b)).ok:=⟨_,rfl⟩
  obtain ⟨y,hy⟩:∃ y,y=zac (rst s b):=⟨_,rfl⟩
  rw [← hn, ← ho] at hle
  rw [← ho, ← hy] at hw1
  rw [← hn, ← ho]
  have hbn:b+n≤s.size:=by omega
  have hps:=zke C s b n hbn (by omega) x.1 x.2 (by have:=hpl.2.2.2;omega) (by have:=hpl.2.2.1;omega) v W hst.blk
  have hRe2:R=if o=false then ⟨false,b+n,lcB (rst s b) x n,ws⟩ else cutGo s f (b+n) (lcB (rst s b) x n) (ws++[⟨y,b,x.1,x.2,b+n⟩]):=by rw [hRe,hn,ho,hy];rfl
  have HPS:=kz hps
  have HST:=kz hst
  have HRE:=kz hRe2
  have HW1:=kz hw1
  have H0:=kz (And.intro hk (And.intro hpl (And.intro hfu hle)))
  clear hps hst hRe hRe2 hw1 hk hpl hfu hz hn ho hy hle hrz
  go_wp2_with fail
  refine (oz HPS).mono ?_
  rintro e w1 ⟨rfl,hblk,hgr⟩
  have HS2:=kz ((oz HST).pass (x':=lcB (rst s b) x n) hblk hgr)
  clear hblk hgr HPS HST
  cases o with
  | false =>
   have HRF:Hz (R=⟨false,b+n,lcB (rst s b) x n,ws⟩):=kz (by rw [oz HRE,if_pos rfl])
   clear HRE
   go_wp2_with fail
   show Exit.noGoto _ Exit.ret _ _
   rw [Exit.noGoto_ret]
   go_ret
   obtain ⟨r1,r2,r3,r4⟩:=CutV.parts (oz HRF)
   rw [r1,r2,r3,r4]
   exact ⟨rfl,v,cs,oz HS2⟩
  | true =>
   have HRF:Hz (R=cutGo s f (b+n) (lcB (rst s b) x n) (ws++[⟨y,b,x.1,x.2,b+n⟩])):=kz (by rw [oz HRE,if_neg (by decide)])
   obtain rfl:=oz HW1 rfl
   have h2:=oz HS2
   have c1:=h2.blk.cell 1
   have k7:=h2.box.cell 7
   have f7:=h2.box.frozen 7
   obtain ⟨ci,hci⟩:∃ ci,ci=(#[.int .i64 y.kind,.string y.S,.int .i32 y.R,.int .i64 y.N,.int .i64 b,.int .i64 x.1,.int .i64 x.2,.int .i64 ((b:Int)+n)] : Array Value):=⟨_,rfl⟩
   have HS3:Hz (CutSt w (w1.setCell ⟨w.heap.size,7,none⟩ (.int .i64 ((b:Int)+n))) C s (b+n) (lcB (rst s b) x n) v ws ci):=kz ((h2.set 7 (.int .i64 ((b:Int)+n))).as (by rw [hci];simp))
   have hbb:(b:Int)≤262144:=by omega
   have hnb:(n:Int)≤262144:=by omega
   have c1':w1.cell? ⟨C,1,none⟩=some (.int .i64 ((b:Int)+n)):=by rw [c1];simp [Int.natCast_add]
   clear HRE HW1 h2 HS2 c1
   go_wp2_with fail
   clear c1' k7 f7
   generalize w1.setCell ⟨w.heap.size,7,none⟩ (.int .i64 ((b:Int)+n))=W3 at *
   have h3:=oz HS3
   subst hci
   obtain ⟨i0,hi,hz0,hz1,hz2⟩:=info_parts infoWord
   have HI:=kz (And.intro hi (And.intro hz0 (And.intro hz1 hz2)))
   have d4:=h3.blk.cell 4
   have e4:=h3.blk.frozen 4
   have m0:=h3.box.cell 0
   have m1:=h3.box.cell 1
   have m2:=h3.box.cell 2
   have m3:=h3.box.cell 3
   have m4:=h3.box.cell 4
   have m5:=h3.box.cell 5
   have m6:=h3.box.cell 6
   have m7:=h3.box.cell 7
   have hmx:Tryz.prog.follows .mixedOrders=true:=by kernel_rfl
   have hown:=h3.own
   have hbase:w.heap.size+1≤W3.heap.size:=h3.box.lt
   have hwl:ws.length≤262144:=by have:=(oz H0).2.1;have h9:=this.2.2.2;have h8:=this.1;omega
   have dd4:∀ o,(W3.alloc o).cell? ⟨C,4,none⟩=some v:=fun o =>(h3.blk.alloc o).cell 4
   have dd5:∀ o,(W3.alloc o).drew.cell? ⟨C,4,none⟩=some v:=dd4
   have fz:∀ o,(W3.alloc o).frozen? ⟨C,4,none⟩=false:=fun o =>(h3.blk.alloc o).frozen 4
   have fz2:∀ o,(W3.alloc o).drew.frozen? ⟨C,4,none⟩=false:=fz
   clear hi hz0 hz1 hz2 h3
   go_region_law ((refine step_append_lies _ (by rfl) _ _ _ (by rfl) (w.heap.size+1) 147 i0 _ 8 72 Tryz.underlying76 (oz HI).1 (oz HI).2.1 (oz HI).2.2.1 (oz HI).2.2.2 rfl (by omega) v ws.length (zgA ws) (by rfl) ((hown.alloc _).drew) ⟨W3.heap.size,0,none⟩ 1 1 [.int .i64 y.kind,.string y.S,.int .i32 y.R,.int .i64 y.N,.int .i64 b,.int .i64 x.1,.int .i64 x.2,.int .i64 ((b:Int)+n)] (by rfl) (by rfl) (World.news_of_block (cs:=#[.int .i64 y.kind,.string y.S,.int .i32 y.R,.int .i64 y.N,.int .i64 b,.int .i64 x.1,.int .i64 x.2,.int .i64 ((b:Int)+n)]) (t:=147) (fr:=(0,0)) (heap_alloc_new W3 _)) (by simp [Value.oneCell']) (by omega) (by unfold maxLen;omega) (by omega) (by simp;omega) (W3.heap.size+1) (by simp) ?_;intro gg cap w3 hown1 hgrow hatt hlt;obtain ⟨q1,q2⟩:=(oz HS3).app hgrow;have q3:=q1.cell 4;have q4:=q1.frozen 4))
   all_goals
    have ew:zfV ⟨y,b,x.1,x.2,b+n⟩=[.int .i64 y.kind,.string y.S,.int .i32 y.R,.int .i64 y.N,.int .i64 b,.int .i64 x.1,.int .i64 x.2,.int .i64 ((b:Int)+n)]:=by simp [zfV,Int.natCast_add]
    have h9:=(oz HS3).push (X:=⟨y,b,x.1,x.2,b+n⟩) hgrow (by rw [ew];exact hown1)
    have HS9:=kz h9
    clear h9 hown1 hgrow hatt hlt q1 q2 q3 q4 d4 e4 m0 m1 m2 m3 m4 m5 m6 m7 dd4 dd5 fz fz2 hown HS3
    go_wp2_with fail
    go_step3
    obtain ⟨hk,hpl,hfu,hle⟩:=oz H0
    have h1n:=hle.2 (by trivial)
    have hbd:=ziE (rst s b) x n hpl.2.1
    refine ⟨10*(s.size - (b+n))+9,by omega,f,b+n,lcB (rst s b) x n,_,_,_,rfl,⟨hbn,hbd.1,by have:=hpl.2.2.1;omega,by have:=hpl.2.2.2;omega, ?_⟩,by omega,rfl,oz HRF,oz HS9,zc3 rfl⟩
    rw [List.length_append]
    have:=hpl.2.2.2
    simp
    omega
theorem countNl_sh (s:ByteArray) (w:World):Calls Tryz.prog 60 #[.string s,.string ⟨#[10]⟩] w fun e w' =>e=.returned (.int .i64 (Lib.countByte s.data.toList 10))∧w'=w:=Any.strings_Count_one lay138 s 10 w
theorem lastNl_sh (s:ByteArray) (hs:s.size < 4611686018427387904) (w:World):Calls Tryz.prog 59 #[.string s,.int .u8 10] w fun e w' =>e=.returned (.int .i64 (Lib.lastIndexByte s 10))∧w'=w:=Any.strings_LastIndexByte lay149 s 10 hs w
def zeX (s:ByteArray) (k:Nat):ByteArray:=s.extract 0 (zcU s k)
def zbo (t:ByteArray):Nat:=(Lib.lastIndexByte t 10+1).toNat
def whL (s:ByteArray) (k:Nat):Nat × Nat:=(1+Lib.countByte (zeX s k).data.toList 10,1+(zaw ((zeX s k).extract (zbo (zeX s k)) (zeX s k).size)).length)
theorem lastL_le (t:ByteArray):(Lib.lastIndexByte t 10+1)=(zbo t:Int)∧zbo t≤t.size:=by
 unfold zbo
 rcases Lib.lastIndexByte_spec t 10 with ⟨h,_⟩ | ⟨i,hi,h,_⟩
 ·rw [h];exact ⟨rfl,Nat.zero_le _⟩
 ·rw [h];omega
abbrev atA (k:Nat) (x:Nat × Nat):Array Value:=#[.int .i64 k,.int .i64 x.1,.int .i64 x.2]
set_option maxRecDepth 100000 in
set_option maxHeartbeats 4000000 in
theorem zfG (s:ByteArray) (hs:s.size≤262145) (k:Nat) (hk:k≤s.size) (w:World):Calls Tryz.prog 24 #[.string s,.int .i64 k] w fun e w' =>e=.returned (.agg (atA k (whL s k)))∧Below w.heap.size w w':=by
 have hkc:zg8 s (k:Int)=k:=by unfold zg8;omega
 have hcut:=cut_any s (by unfold maxLen;omega) (k:Int)
 rw [hkc] at hcut
 obtain ⟨t,ht⟩:∃ t,t=zeX s k:=⟨_,rfl⟩
 have hts:t.size≤s.size:=by rw [ht];unfold zeX;rw [ByteArray.size_extract];omega
 have hcut2:∀ w,Calls Tryz.prog 58 #[.string s,.int .i64 k] w fun e w' =>e=.returned (.tuple #[.string t,.string (s.extract (zcU s k) s.size)])∧Below w.heap.size w w':=fun w =>by rw [ht];exact hcut w
 obtain ⟨hl1,hl2⟩:=lastL_le t
 obtain ⟨n,hn⟩:∃ n,n=zbo t:=⟨_,rfl⟩
 obtain ⟨j,hj⟩:∃ j,j=Lib.countByte t.data.toList 10:=⟨_,rfl⟩
 have hjs:j≤t.size:=by rw [hj];have:=List.count_le_length (a:=(10:UInt8)) (l:=t.data.toList);rw [Array.length_toList] at this;exact this
 have hlast:=lastNl_sh t (by omega)
 have hcnt:=countNl_sh t
 rw [← hn] at hl1 hl2
 rw [← hj] at hcnt
 have hw:whL s k=(1+j,1+(zaw (t.extract n t.size)).length):=by unfold whL;rw [← ht, ← hj, ← hn]
 have hus:(t.extract n t.size).size≤t.size:=by rw [ByteArray.size_extract];omega
 have hsl:=zbL (t.extract n t.size)
 obtain ⟨u,hu⟩:∃ u,u=t.extract n t.size:=⟨_,rfl⟩
 rw [← hu] at hw hus hsl
 have hcu:=count_any u (by unfold maxLen;omega)
 obtain ⟨z,hz⟩:∃ z,z=(zaw u).length:=⟨_,rfl⟩
 rw [← hz] at hw hsl hcu
 have hue:t.extract n t.size=u:=hu.symm
 have hks:(k:Int)≤(s.size:Int):=by omega
 have hk0:(0:Int)≤(k:Int):=by omega
 have hn1:(n:Int)≤(t.size:Int):=by omega
 have hn2:((n:Nat):Int).toNat=n:=by omega
 have hjb:(j:Int)≤262145:=by omega
 have hzb:(z:Int)≤262145:=by omega
 have HC:=kz hcut2
 have HL:=kz hlast
 have HN:=kz hcnt
 have HU:=kz hcu
 have HW:=kz hw
 have HL1:=kz hl1
 have hB0:=(Below.refl w.heap.size w).alloc (Nat.le_refl _) (.cells #[.int .i64 0,.int .i64 0,.int .i64 0] 53)
 have b0:=Blk.new w #[.int .i64 0,.int .i64 0,.int .i64 0] 53
 have Hb0:=kz b0
 have HB0:=kz hB0
 clear hcut hcut2 hlast hcnt hcu hw hl1 hu hz hn hj ht hkc hB0 b0
 go_enter Tryz.func24,Tryz.ntmps24
 go_wp2_with fail
 rw [show min (k:Int) (s.size:Int)=k by omega]
 refine (oz HC _).mono ?_
 rintro e w1 ⟨rfl,hb⟩
 have Hb1:=kz ((oz Hb0).below hb (oz Hb0).lt)
 have HB1:=kz ((oz HB0).trans (hb.mono (oz HB0).size))
 clear hb Hb0 HB0 HC
 go_wp2_with fail
 refine (oz HL _).mono ?_
 rintro e w2 ⟨rfl,rfl⟩
 rw [show Lib.lastIndexByte t 10=(n:Int) - 1 by have:=oz HL1;omega]
 have hnb:(n:Int)≤262145:=by omega
 have HBZ:Hz (w2.frozen? ⟨w.heap.size,0,none⟩=false∧w2.frozen? ⟨w.heap.size,1,none⟩=false∧w2.frozen? ⟨w.heap.size,2,none⟩=false):=kz ⟨(oz Hb1).frozen 0,(oz Hb1).frozen 1,(oz Hb1).frozen 2⟩
 go_wp2_with fail
 have hB2:∀ w':World,Below w2.drew.heap.size w2.drew w'→Blk w' w.heap.size #[.int .i64 0,.int .i64 0,.int .i64 0] 53:=fun w' hb =>(show Blk w2.drew w.heap.size #[.int .i64 0,.int .i64 0,.int .i64 0] 53 from oz Hb1).below hb (oz Hb1).lt
 have HB2:=kz hB2
 clear hB2
 go_region_with ((first | (go_at_call 60;refine (oz HN _).mono ?_;rintro e w' ⟨rfl,rfl⟩) | (go_at_call 61;refine (oz HU _).mono ?_;rintro e w' ⟨rfl,hb⟩;have c0:=(oz HB2 w' hb).cell 0;have c1:=(oz HB2 w' hb).cell 1;have c2:=(oz HB2 w' hb).cell 2;have f0:=(oz HB2 w' hb).frozen 0;have f1:=(oz HB2 w' hb).frozen 1;have f2:=(oz HB2 w' hb).frozen 2)))
 rw [zhc (n:=1+(j:Int)) (by omega) (by omega),zhc (n:=1+(z:Int)) (by omega) (by omega)]
 have hE:Blk (((w'.setCell ⟨w.heap.size,0,none⟩ (.int .i64 k)).setCell ⟨w.heap.size,1,none⟩ (.int .i64 (1+(j:Int)))).setCell ⟨w.heap.size,2,none⟩ (.int .i64 (1+(z:Int)))) w.heap.size #[.int .i64 k,.int .i64 (1+(j:Int)),.int .i64 (1+(z:Int))] 53:=(((oz HB2 w' hb).set 0 (.int .i64 k)).set 1 (.int .i64 (1+(j:Int)))).set 2 (.int .i64 (1+(z:Int)))
 have hBB:Below w.heap.size w w':=(show Below w.heap.size w w2.drew from (oz HB1).drew).trans (hb.mono (oz HB1).size)
 have hBE:=((hBB.setCell (p:=⟨w.heap.size,0,none⟩) (Nat.le_refl _) (.int .i64 k)).setCell (p:=⟨w.heap.size,1,none⟩) (Nat.le_refl _) (.int .i64 (1+(j:Int)))).setCell (p:=⟨w.heap.size,2,none⟩) (Nat.le_refl _) (.int .i64 (1+(z:Int)))
 have r0:=hE.cell 0
 have r1:=hE.cell 1
 have r2:=hE.cell 2
 have HBE:=kz hBE
 clear hE hBB hBE hb c0 c1 c2 f0 f1 f2
 generalize (((w'.setCell ⟨w.heap.size,0,none⟩ (.int .i64 k)).setCell ⟨w.heap.size,1,none⟩ (.int .i64 (1+(j:Int)))).setCell ⟨w.heap.size,2,none⟩ (.int .i64 (1+(z:Int))))=W9 at *
 go_wp2_with fail
 refine bodyPost_ret (v := .agg #[.int .i64 k,.int .i64 (1+(j:Int)),.int .i64 (1+(z:Int))]) (by simp [results,Tryz.results24,go_sem,r0,r1,r2]) rfl ⟨?_,oz HBE⟩
 rw [oz HW]
 simp [atA,Int.natCast_add]
end Go.Proofs.YtmdgejgokoadlaaGreatDoor
