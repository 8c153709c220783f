/- Texts of this claim, one behind the other. -/
import Derived.Test.YthchopdfmchpkaaGreatM19
import Derived.Maps.RangeWalk
namespace Go.Proofs.YthchopdfmchpkaaGreat
open Go.RowKit Go.Shelf Go.Maps
set_option linter.unusedVariables false
set_option maxRecDepth 100000
set_option maxHeartbeats 8000000
structure BkP (w:World) (BB B:Nat) (T:TV):Prop where
 bb:Blk w BB #[.pointer (some ⟨B,0,none⟩)] 22
 bk:BookAt w B T
theorem BkP.below {w w':World} {BB B:Nat} {T:TV} (h:BkP w BB B T) (hb:Below w.heap.size w w'):BkP w' BB B T:=⟨h.bb.below hb h.bb.lt,h.bk.below hb⟩
theorem Xc {r:Int} (h:zm r=true):R32 r:=by
 have:=yL h;unfold R32;omega
theorem XR {T:TV} (hO:zx T) (B:Nat) (zs:List Int) (hn:zs.length≤1000000) (a:Option Addr) (c:Nat) (W:World) (h:BookAt W B T) (hr:RnC W W.heap.size a zs) :
  Calls Tryz.prog 156 #[.pointer (some ⟨B,0,none⟩),.slice a zs.length c] W fun e w' =>e=.returned (.int .i64 (if zs.any (drB T) then 37 else 0))∧Below W.heap.size W w':=by
 have HI:=kz (Xe zs hn a c 214 #[.pointer (some ⟨B,0,none⟩)] #[] (enters_of Tryz.func214 (by kernel_rfl) rfl) (drB T) W hr (fun x _ w hb =>(JD hO B x w (h.below hb)).mono (fun e w' ⟨he,hw⟩ =>⟨he,hb.trans (hw.mono hb.size)⟩)));clear hr h hO;generalize zs.any (drB T)=b at *;go_enter Tryz.func156,Tryz.ntmps156;go_wp2_with fail
 refine (oz HI).mono ?_;rintro e w' ⟨rfl,hb⟩;have HB:=kz hb;clear hb HI;go_wp2_with fail
 refine (zK b 37 w').mono ?_;rintro e w2 ⟨rfl,rfl⟩;cases b
 all_goals
  go_wp2_with fail
  go_ret;exact ⟨rfl,oz HB⟩
theorem Yw {l:List (Int × Int)} (hl:l.length≤1000000) (C:Nat) (zs:List Int) (hn:zs.length≤1000000) (a:Option Addr) (c:Nat) (W:World) (h:SetV W l C) (hr:RnC W W.heap.size a zs) :
  Calls Tryz.prog 171 #[.pointer (some ⟨C,0,none⟩),.slice a zs.length c] W fun e w' =>e=.returned (.int .i64 (if zs.any (zi l) then 5 else 0))∧Below W.heap.size W w':=by
 have HI:=kz (Xe zs hn a c 109 #[.pointer (some ⟨C,0,none⟩)] #[] (enters_of Tryz.func109 (by kernel_rfl) rfl) (zi l) W hr (fun x _ w hb =>(Ja hl (h.below hb) x).mono (fun e w' ⟨he,hw⟩ =>⟨he,hb.trans (hw.mono hb.size)⟩)));clear hr h;generalize zs.any (zi l)=b at *;go_enter Tryz.func171,Tryz.ntmps171;go_wp2_with fail
 refine (oz HI).mono ?_;rintro e w' ⟨rfl,hb⟩;have HB:=kz hb;clear hb HI;go_wp2_with fail
 refine (zK b 5 w').mono ?_;rintro e w2 ⟨rfl,rfl⟩;cases b
 all_goals
  go_wp2_with fail
  go_ret;exact ⟨rfl,oz HB⟩
theorem zeC {T:TV} (hO:zx T) (BB B:Nat) (x1 x2 x3:Int) (h1:R32 x1) (h2:R32 x2) (h3:R32 x3) (w:World) (h:BkP w BB B T) :
  Calls Tryz.prog 153 #[.agg #[.int .i32 x1,.int .i32 x2,.int .i32 x3],.pointer (some ⟨BB,0,none⟩)] w fun e w' =>e=.returned (.int .i64 (prE T (x1,x2,x3)))∧Below w.heap.size w w':=by
 have hB:Below w.heap.size w (w.alloc (.cells #[.int .i32 x1,.int .i32 x2,.int .i32 x3] 100)):=(Below.refl _ w).alloc zD _;have hP:=h.below hB;have b0:=hP.bb.cell 0;have HC1:=kz (Ya hO B x1 h1 _ hP.bk);have HC2:=kz (Ya hO B x2 h2 _ hP.bk);have HC3:=kz (Ya hO B x3 h3 _ hP.bk);have m1:=ZK hO x1;have m2:=ZK hO x2;have m3:=ZK hO x3;have HB:=kz hB;unfold prE;dsimp only;clear hB hP h hO h1 h2 h3;generalize jF T x1=k1 at *;generalize jF T x2=k2 at *;generalize jF T x3=k3 at *;generalize yJ T x1=b1 at *;generalize yJ T x2=b2 at *;generalize yJ T x3=b3 at *;cases b1 with
 | true =>
  have n1:¬ k1=0:=by simpa using m1
  have q1:(k1 == 0)=false:=m1;have p1:(k1 != 0)=true:=by simpa using m1
  clear m1;go_enter Tryz.func153,Tryz.ntmps153;go_wp2_with fail
  refine (oz HC1).mono ?_;rintro e w1 ⟨rfl,hw⟩;rw [hw];clear hw HC1;go_wp2_with fail
  refine (zK true 32 _).mono ?_;rintro e w1 ⟨rfl,hw⟩;rw [hw];clear hw;go_wp2_with fail
  go_ret;exact ⟨rfl,oz HB⟩
 | false =>
  obtain rfl:k1=0:=by simpa using m1
  clear m1;cases b2 with
  | true =>
   have n2:¬ k2=0:=by simpa using m2
   have q2:(k2 == 0)=false:=m2;have p2:(k2 != 0)=true:=by simpa using m2
   clear m2;go_enter Tryz.func153,Tryz.ntmps153;go_wp2_with fail
   refine (oz HC1).mono ?_;rintro e w1 ⟨rfl,hw⟩;rw [hw];clear hw HC1;go_wp2_with fail
   refine (oz HC2).mono ?_;rintro e w1 ⟨rfl,hw⟩;rw [hw];clear hw HC2;go_wp2_with fail
   refine (zK true 32 _).mono ?_;rintro e w1 ⟨rfl,hw⟩;rw [hw];clear hw;go_wp2_with fail
   go_ret;exact ⟨rfl,oz HB⟩
  | false =>
   obtain rfl:k2=0:=by simpa using m2
   clear m2;cases b3 with
   | true =>
    have n3:¬ k3=0:=by simpa using m3
    have q3:(k3 == 0)=false:=m3;have p3:(k3 != 0)=true:=by simpa using m3
    clear m3;go_enter Tryz.func153,Tryz.ntmps153;go_wp2_with fail
    refine (oz HC1).mono ?_;rintro e w1 ⟨rfl,hw⟩;rw [hw];clear hw HC1;go_wp2_with fail
    refine (oz HC2).mono ?_;rintro e w1 ⟨rfl,hw⟩;rw [hw];clear hw HC2;go_wp2_with fail
    refine (oz HC3).mono ?_;rintro e w1 ⟨rfl,hw⟩;rw [hw];clear hw HC3;go_wp2_with fail
    refine (zK false 32 _).mono ?_;rintro e w1 ⟨rfl,hw⟩;rw [hw];clear hw;go_wp2_with fail
    go_ret;exact ⟨rfl,oz HB⟩
   | false =>
    obtain rfl:k3=0:=by simpa using m3
    clear m3;go_enter Tryz.func153,Tryz.ntmps153;go_wp2_with fail
    refine (oz HC1).mono ?_;rintro e w1 ⟨rfl,hw⟩;rw [hw];clear hw HC1;go_wp2_with fail
    refine (oz HC2).mono ?_;rintro e w1 ⟨rfl,hw⟩;rw [hw];clear hw HC2;go_wp2_with fail
    refine (oz HC3).mono ?_;rintro e w1 ⟨rfl,hw⟩;rw [hw];clear hw HC3;go_wp2_with fail
    refine (zK true 32 _).mono ?_;rintro e w1 ⟨rfl,hw⟩;rw [hw];clear hw;go_wp2_with fail
    go_ret;exact ⟨rfl,oz HB⟩
theorem zac {T:TV} (hO:zx T) (BB B:Nat) (x1:Int) (x2:ByteArray) (w:World) (h:BkP w BB B T) :
  Calls Tryz.prog 155 #[.agg #[.int .i32 x1,.string x2],.pointer (some ⟨BB,0,none⟩)] w fun e w' =>e=.returned (.int .i64 (if drB T x1 then 37 else 0))∧Below w.heap.size w w':=by
 have hB1:Below w.heap.size w (w.alloc (.cells #[.int .i32 x1,.string x2] 102)):=(Below.refl _ w).alloc zD _;have b0:=(h.below hB1).bb.cell 0;have hB2:Below w.heap.size w ((w.alloc (.cells #[.int .i32 x1,.string x2] 102)).alloc (.cells #[.int .i32 x1] 21)):=hB1.alloc (by simp) _;have hP:=h.below hB2;have hv:[x1].any (drB T)=(drB T x1):=by simp
 have HD:=kz (XR hO B [x1] (by simp) (some ⟨w.heap.size+1,0,none⟩) 1 ((w.alloc (.cells #[.int .i32 x1,.string x2] 102)).alloc (.cells #[.int .i32 x1] 21)) hP.bk (Zl (w.alloc (.cells #[.int .i32 x1,.string x2] 102)) (w.heap.size+1) x1 21 (by simp)));rw [hv] at HD;have HB:=kz hB2;clear hB1 hB2 hP h hO hv;generalize (drB T x1)=bb at *;go_enter Tryz.func155,Tryz.ntmps155;go_wp2_with fail
 refine (oz HD).mono ?_;rintro e w2 ⟨rfl,hb⟩;have HB2:=kz ((oz HB).trans (hb.mono (oz HB).size));clear hb HB HD;cases bb
 all_goals
  go_wp2_with fail
  go_ret;exact ⟨rfl,oz HB2⟩
theorem zes {T:TV} (hO:zx T) (BB B:Nat) (x1 x2:Int) (w:World) (h:BkP w BB B T) :
  Calls Tryz.prog 157 #[.agg #[.int .i32 x1,.int .i64 x2],.pointer (some ⟨BB,0,none⟩)] w fun e w' =>e=.returned (.int .i64 (if drB T x1 then 37 else 0))∧Below w.heap.size w w':=by
 have hB1:Below w.heap.size w (w.alloc (.cells #[.int .i32 x1,.int .i64 x2] 98)):=(Below.refl _ w).alloc zD _;have b0:=(h.below hB1).bb.cell 0;have hB2:Below w.heap.size w ((w.alloc (.cells #[.int .i32 x1,.int .i64 x2] 98)).alloc (.cells #[.int .i32 x1] 21)):=hB1.alloc (by simp) _;have hP:=h.below hB2;have hv:[x1].any (drB T)=(drB T x1):=by simp
 have HD:=kz (XR hO B [x1] (by simp) (some ⟨w.heap.size+1,0,none⟩) 1 ((w.alloc (.cells #[.int .i32 x1,.int .i64 x2] 98)).alloc (.cells #[.int .i32 x1] 21)) hP.bk (Zl (w.alloc (.cells #[.int .i32 x1,.int .i64 x2] 98)) (w.heap.size+1) x1 21 (by simp)));rw [hv] at HD;have HB:=kz hB2;clear hB1 hB2 hP h hO hv;generalize (drB T x1)=bb at *;go_enter Tryz.func157,Tryz.ntmps157;go_wp2_with fail
 refine (oz HD).mono ?_;rintro e w2 ⟨rfl,hb⟩;have HB2:=kz ((oz HB).trans (hb.mono (oz HB).size));clear hb HB HD;cases bb
 all_goals
  go_wp2_with fail
  go_ret;exact ⟨rfl,oz HB2⟩
theorem zer {T:TV} (hO:zx T) (BB B:Nat) (x1 x2 x3:Int) (w:World) (h:BkP w BB B T) :
  Calls Tryz.prog 158 #[.agg #[.int .i32 x1,.int .i32 x2,.int .i32 x3],.pointer (some ⟨BB,0,none⟩)] w fun e w' =>e=.returned (.int .i64 (if drB T x1 || (drB T x2 || drB T x3) then 37 else 0))∧Below w.heap.size w w':=by
 have hB1:Below w.heap.size w (w.alloc (.cells #[.int .i32 x1,.int .i32 x2,.int .i32 x3] 100)):=(Below.refl _ w).alloc zD _;have b0:=(h.below hB1).bb.cell 0;have hB2:Below w.heap.size w ((w.alloc (.cells #[.int .i32 x1,.int .i32 x2,.int .i32 x3] 100)).alloc (.cells #[.int .i32 x1,.int .i32 x2,.int .i32 x3] 21)):=hB1.alloc (by simp) _;have hP:=h.below hB2;have hv:[x1,x2,x3].any (drB T)=(drB T x1 || (drB T x2 || drB T x3)):=by simp
 have HD:=kz (XR hO B [x1,x2,x3] (by simp) (some ⟨w.heap.size+1,0,none⟩) 3 ((w.alloc (.cells #[.int .i32 x1,.int .i32 x2,.int .i32 x3] 100)).alloc (.cells #[.int .i32 x1,.int .i32 x2,.int .i32 x3] 21)) hP.bk (zc0 (w.alloc (.cells #[.int .i32 x1,.int .i32 x2,.int .i32 x3] 100)) (w.heap.size+1) x1 x2 x3 21 (by simp)));rw [hv] at HD;have HB:=kz hB2;clear hB1 hB2 hP h hO hv;generalize (drB T x1 || (drB T x2 || drB T x3))=bb at *;go_enter Tryz.func158,Tryz.ntmps158;go_wp2_with fail
 refine (oz HD).mono ?_;rintro e w2 ⟨rfl,hb⟩;have HB2:=kz ((oz HB).trans (hb.mono (oz HB).size));clear hb HB HD;cases bb
 all_goals
  go_wp2_with fail
  go_ret;exact ⟨rfl,oz HB2⟩
theorem zae {T:TV} (hO:zx T) (BB B:Nat) (x1:Int) (x2:ByteArray) (h1:R32 x1) (w:World) (h:BkP w BB B T) :
  Calls Tryz.prog 159 #[.agg #[.int .i32 x1,.string x2],.pointer (some ⟨BB,0,none⟩)] w fun e w' =>e=.returned (.int .i64 (if yJ T x1 || XU T x1 then 31 else 0))∧Below w.heap.size w w':=by
 have hB1:Below w.heap.size w (w.alloc (.cells #[.int .i32 x1,.string x2] 102)):=(Below.refl _ w).alloc zD _;have b0:=(h.below hB1).bb.cell 0;have HD:=kz (YN hO B x1 h1 (w.alloc (.cells #[.int .i32 x1,.string x2] 102)) (h.below hB1).bk);have HB:=kz hB1;clear hB1 h hO h1;generalize (yJ T x1 || XU T x1)=bb at *;go_enter Tryz.func159,Tryz.ntmps159;go_wp2_with fail
 refine (oz HD).mono ?_;rintro e w2 ⟨rfl,hb⟩;have HB2:=kz ((oz HB).trans (hb.mono (oz HB).size));clear hb HB HD b0;go_wp2_with fail
 refine (zK bb 31 w2).mono ?_;rintro e w3 ⟨rfl,rfl⟩;cases bb
 all_goals
  go_wp2_with fail
  go_ret;exact ⟨rfl,oz HB2⟩
theorem zad {T:TV} (hO:zx T) (BB B:Nat) (r:Int) (h1:R32 r) (w:World) (h:BkP w BB B T) :
  Calls Tryz.prog 161 #[.int .i32 r,.pointer (some ⟨BB,0,none⟩)] w fun e w' =>e=.returned (.bool (!zO T r))∧Below w.heap.size w w':=by
 have b0:=h.bb.cell 0;have HD:=kz (zcQ hO B r h1 w h.bk);clear h hO h1;generalize zO T r=bb at *;go_enter Tryz.func161,Tryz.ntmps161;go_wp2_with fail
 refine (oz HD).mono ?_;rintro e w2 ⟨rfl,hb⟩;have HB2:=kz hb;clear hb HD b0;go_wp2_with fail
 go_ret;exact ⟨rfl,oz HB2⟩
structure BkU (w:World) (BB BU B:Nat) (T:TV):Prop where
 bp:BkP w BB B T
 bu:Blk w BU #[.func (.func 161) #[] #[.pointer (some ⟨BB,0,none⟩)]] 133
theorem BkU.below {w w':World} {BB BU B:Nat} {T:TV} (h:BkU w BB BU B T) (hb:Below w.heap.size w w'):BkU w' BB BU B T:=⟨h.bp.below hb,h.bu.below hb h.bu.lt⟩
theorem zeB {T:TV} (hO:zx T) (BB BU B:Nat) (r:Int) (h1:R32 r) (w:World) (h:BkU w BB BU B T) :
  Calls Tryz.prog 163 #[.int .i32 r,.pointer (some ⟨BB,0,none⟩),.pointer (some ⟨BU,0,none⟩)] w fun e w' =>e=.returned (.bool (!zO T r || Yd T.lk r))∧Below w.heap.size w w':=by
 have b0:=h.bp.bb.cell 0;have b1:=h.bu.cell 0;obtain ⟨M,n,c0,hs⟩:=h.bp.bk.lks;obtain ⟨a,c,hl,_⟩:=zih (T:=T) hO.t5 hs h1;rw [zeX] at hl;generalize (((toP T.lk r).map (fun x =>zk x.2)).getD []).length=ln at *;have HD:=kz (zad hO BB B r h1 w h.bp);have eg:∀ args w,(callFunc 161 args).run Tryz.prog w=.ok (.enter 161 args) w:=enters_of Tryz.func161 (by kernel_rfl) rfl;clear h hO h1 hs;generalize zO T r=bb at *;generalize Yd T.lk r=bf at *;cases bf with
 | true =>
  go_enter Tryz.func163,Tryz.ntmps163;go_wp2_with fail
  go_ret;exact ⟨by rw [Bool.or_true];rfl,zl⟩
 | false =>
  go_enter Tryz.func163,Tryz.ntmps163;go_wp2_with (go_at_fn 161;refine (oz HD).mono ?_;rintro e w2 ⟨rfl,hb⟩)
  go_ret;exact ⟨by rw [Bool.or_false];rfl,hb⟩
theorem zca {w:World} {g:Nat} {l:List Int} (h:RnG w g l):RnC w w.heap.size (some ⟨g,0,none⟩) l:=fun _ =>⟨g,0,rfl,h.1,fun j x hx =>by rw [Nat.zero_add];exact h.2 j x hx⟩
structure BkV (w:World) (BB BU BV B:Nat) (T:TV):Prop where
 bu:BkU w BB BU B T
 bv:Blk w BV #[.func (.func 163) #[] #[.pointer (some ⟨BB,0,none⟩),.pointer (some ⟨BU,0,none⟩)]] 133
theorem BkV.below {w w':World} {BB BU BV B:Nat} {T:TV} (h:BkV w BB BU BV B T) (hb:Below w.heap.size w w'):BkV w' BB BU BV B T:=⟨h.bu.below hb,h.bv.below hb h.bv.lt⟩
def zjR (P:Nat) (x2:ByteArray) (fv:Value) (bb:Bool) (z:Int):Nat→Value→World→Prop
 | 0,v,w =>v=.pointer (some ⟨P,1,none⟩)
 | 1,v,w =>v=.string x2
 | 2,v,w => ∃ g c,v=.slice (some ⟨g,0,none⟩) (zk x2).length c∧RnG w g (zk x2)
 | 3,v,w =>v=fv
 | 4,v,w =>v=.bool bb
 | 5,v,w =>v=.int .i64 z
 | _,v,w =>True
def zjQ (j:Nat):Bool:=false
theorem Jq {P:Nat} {x2:ByteArray} {fv:Value} {bb:Bool} {z:Int} {w w':World} (hb:Below w.heap.size w w'):∀ (j:Nat) (v:Value),zjR P x2 fv bb z j v w→zjR P x2 fv bb z j v w'
 | 0,v,h =>h
 | 1,v,h =>h
 | 2,v,h =>let ⟨g,c,e,h2⟩:=h; ⟨g,c,e,h2.below hb⟩
 | 3,v,h =>h
 | 4,v,h =>h
 | 5,v,h =>h
 | _+6,v,h =>h
theorem Jr {P:Nat} {x2:ByteArray} {fv:Value} {bb:Bool} {z:Int} {w:World} (j:Nat) (v:Value) (hm:zjQ j=true) (h:zjR P x2 fv bb z j v w):∀ b,v.ownBlock=some b→b < w.heap.size:=by
 cases hm
theorem zeA {T:TV} (hO:zx T) (BB BU B:Nat) (x1:Int) (x2:ByteArray) (hz:x2.size≤1048576) (hn:(zk x2).length≤1000000) (h32:∀ r ∈ zk x2,R32 r) (w0:World) (h:BkU w0 BB BU B T) :
  Calls Tryz.prog 164 #[.agg #[.int .i32 x1,.string x2],.pointer (some ⟨BU,0,none⟩)] w0 fun e w' =>e=.returned (.int .i64 (if (zk x2).any (fun r => !zO T r) then 35 else 0))∧Below w0.heap.size w0 w':=by
 have hmx:=zdA
 have eg:∀ args w,(callFunc 161 args).run Tryz.prog w=.ok (.enter 161 args) w:=enters_of Tryz.func161 (by kernel_rfl) rfl;have hB0:Below w0.heap.size w0 (w0.alloc (.cells #[.int .i32 x1,.string x2] 102)).drew:=((Below.refl _ w0).alloc zD _).trans ⟨rfl,rfl,rfl,zD,fun _ _ =>rfl⟩;have bX:Blk (w0.alloc (.cells #[.int .i32 x1,.string x2] 102)).drew w0.heap.size #[.int .i32 x1,.string x2] 102:=Blk.new w0 _ _;have hU:=h.below hB0;have HF:Hz (∀ w1,Below (w0.alloc (.cells #[.int .i32 x1,.string x2] 102)).drew.heap.size (w0.alloc (.cells #[.int .i32 x1,.string x2] 102)).drew w1→Blk w1 w0.heap.size #[.int .i32 x1,.string x2] 102∧BkU w1 BB BU B T):=kz (fun w1 h1 =>⟨bX.below h1 bX.lt,hU.below h1⟩);have HB:=kz hB0;have HO:=kz hO;have HZ:=kz hz;have HN:=kz hn;have H32:=kz h32;obtain ⟨bb,hbb⟩:∃ bb,(zk x2).any (fun r => !zO T r)=bb:=⟨_,rfl⟩;rw [hbb];obtain ⟨z,hzz⟩:∃ z:Int,(if bb=true then 35 else 0)=z:=⟨_,rfl⟩;rw [hzz];have HV:=kz hbb;have HZZ:=kz hzz;clear hB0 bX hU h hO hz hn h32 hbb hzz;go_enter Tryz.func164,Tryz.ntmps164;go_wp2_with fail
 generalize (w0.alloc _)=wz at *;refine zn hmx 6 (by decide) (by kernel_rfl) (by kernel_rfl) (fun l a w => ∃ U:Nat→Value,a = { tmps:=#[.agg #[.int .i32 x1,.string x2],.pointer (some ⟨BU,0,none⟩),.pointer (some ⟨w0.heap.size,0,none⟩),.int .i64 0,U 0,U 1,U 2,U 3,U 4,U 5],defers := [] }∧RgJ (wz.drew) (wz.drew.heap.size) (zjR w0.heap.size x2 (.func (.func 161) #[] #[.pointer (some ⟨BB,0,none⟩)]) bb z) zjQ l U w) ⟨fun _ =>undef,rfl,RgJ.start _ _ zD⟩ ?_ ?_
 ·rintro l a w i ⟨U,rfl,hJ⟩ hl hi hif;have h0:=(mem_ready.1 hi).1;have hlt:=Xo hl h0;have HJ:=kz hJ;clear hJ hl
  replace hlt:i < 7:=hlt
  obtain rfl | rfl | rfl | rfl | rfl | rfl:i=0∨i=1∨i=2∨i=3∨i=4∨i=5:=by omega
  any_goals refine Ky rfl (fun K hK =>?_)
  ·clear hlt hif;go_simp;exact hK _ _ ⟨za U 0 _,rfl,(oz HJ).put 0 _ h0 zl (Jq zl) rfl Jr (zJ rfl)⟩
  ·clear hlt hif;have d0:U 0=.pointer (some ⟨w0.heap.size,1,none⟩):=(oz HJ).val 0 (zb hi 0 (by kernel_rfl));have q1:=(oz HF w (oz HJ).bel).1.cell 1;go_simp;exact hK _ _ ⟨za U 1 _,(by rw [zc d0];rfl),(oz HJ).put 1 _ h0 zl (Jq zl) rfl Jr (zJ rfl)⟩
  ·clear hlt hif;have d1:U 1=.string x2:=(oz HJ).val 1 (zb hi 1 (by kernel_rfl));go_simp;refine (zaz x2 (oz HZ) _).mono ?_;rintro e w' ⟨g2,c2,rfl,hg2,hrn,hb⟩;exact hK _ _ ⟨za U 2 _,(by rw [zc d1];rfl),(oz HJ).put 2 _ h0 hb (Jq hb) ⟨g2,c2,rfl,hrn⟩ Jr (zJ rfl)⟩
  ·clear hlt hif;have q2:=(oz HF w (oz HJ).bel).2.bu.cell 0;go_simp;exact hK _ _ ⟨za U 3 _,rfl,(oz HJ).put 3 _ h0 zl (Jq zl) rfl Jr (zJ rfl)⟩
  ·clear hlt hif;obtain ⟨g2,c2,d2,h2⟩:=(oz HJ).val 2 (zb hi 2 (by kernel_rfl));have d3:U 3=.func (.func 161) #[] #[.pointer (some ⟨BB,0,none⟩)]:=(oz HJ).val 3 (zb hi 3 (by kernel_rfl));go_simp;refine (Xe (zk x2) (oz HN) _ _ 161 #[] #[.pointer (some ⟨BB,0,none⟩)] eg (fun r => !zO T r) w (zca h2) (fun x hx w1 hb1 =>(zad (oz HO) BB B x (oz H32 x hx) w1 ((oz HF w (oz HJ).bel).2.bp.below hb1)).mono (fun e w2 ⟨he,hw⟩ =>⟨he,hb1.trans (hw.mono hb1.size)⟩))).mono ?_;rintro e w' ⟨he,hb⟩;rw [oz HV] at he;subst he;exact hK _ _ ⟨za U 4 _,(by rw [zc d2,zc d3];rfl),(oz HJ).put 4 _ h0 hb (Jq hb) rfl Jr (zJ rfl)⟩
  ·clear hlt hif;have d4:U 4=.bool bb:=(oz HJ).val 4 (zb hi 4 (by kernel_rfl));go_simp;refine (zK bb 35 w).mono ?_;rw [oz HZZ];rintro e w' ⟨rfl,rfl⟩;exact hK _ _ ⟨za U 5 _,(by rw [zc d4];rfl),(oz HJ).put 5 _ h0 zl (Jq zl) rfl Jr (zJ rfl)⟩
 ·rintro l a w ⟨U,rfl,hJ⟩ hall;have d5:U 5=.int .i64 z:=hJ.val 5 (hall 5 (by decide) (by decide));have HBJ:=kz ((oz HB).trans (hJ.bel.mono (oz HB).size));clear hJ hall;refine Ky rfl (fun K hK =>?_);go_simp;refine hK _ _ ?_;clear hK;go_wp2_with fail
  go_ret;exact ⟨rfl,oz HBJ⟩
def zjP (P:Nat) (x2:ByteArray) (fv:Value) (bb:Bool) (z:Int):Nat→Value→World→Prop
 | 0,v,w =>v=.pointer (some ⟨P,1,none⟩)
 | 1,v,w =>v=.string x2
 | 2,v,w => ∃ g c,v=.slice (some ⟨g,0,none⟩) (zk x2).length c∧RnG w g (zk x2)
 | 3,v,w =>v=fv
 | 4,v,w =>v=.bool bb
 | 5,v,w =>v=.int .i64 z
 | _,v,w =>True
def zjO (j:Nat):Bool:=false
theorem Jo {P:Nat} {x2:ByteArray} {fv:Value} {bb:Bool} {z:Int} {w w':World} (hb:Below w.heap.size w w'):∀ (j:Nat) (v:Value),zjP P x2 fv bb z j v w→zjP P x2 fv bb z j v w'
 | 0,v,h =>h
 | 1,v,h =>h
 | 2,v,h =>let ⟨g,c,e,h2⟩:=h; ⟨g,c,e,h2.below hb⟩
 | 3,v,h =>h
 | 4,v,h =>h
 | 5,v,h =>h
 | _+6,v,h =>h
theorem Jp {P:Nat} {x2:ByteArray} {fv:Value} {bb:Bool} {z:Int} {w:World} (j:Nat) (v:Value) (hm:zjO j=true) (h:zjP P x2 fv bb z j v w):∀ b,v.ownBlock=some b→b < w.heap.size:=by
 cases hm
theorem zez {T:TV} (hO:zx T) (BB BU BV B:Nat) (x1:Int) (x2:ByteArray) (hz:x2.size≤1048576) (hn:(zk x2).length≤1000000) (h32:∀ r ∈ zk x2,R32 r) (w0:World) (h:BkV w0 BB BU BV B T) :
  Calls Tryz.prog 166 #[.agg #[.int .i32 x1,.string x2],.pointer (some ⟨BV,0,none⟩)] w0 fun e w' =>e=.returned (.int .i64 (if (zk x2).any (fun r => !zO T r || Yd T.lk r) then 36 else 0))∧Below w0.heap.size w0 w':=by
 have hmx:=zdA
 have eg:∀ args w,(callFunc 163 args).run Tryz.prog w=.ok (.enter 163 args) w:=enters_of Tryz.func163 (by kernel_rfl) rfl;have hB0:Below w0.heap.size w0 (w0.alloc (.cells #[.int .i32 x1,.string x2] 102)).drew:=((Below.refl _ w0).alloc zD _).trans ⟨rfl,rfl,rfl,zD,fun _ _ =>rfl⟩;have bX:Blk (w0.alloc (.cells #[.int .i32 x1,.string x2] 102)).drew w0.heap.size #[.int .i32 x1,.string x2] 102:=Blk.new w0 _ _;have hU:=h.below hB0;have HF:Hz (∀ w1,Below (w0.alloc (.cells #[.int .i32 x1,.string x2] 102)).drew.heap.size (w0.alloc (.cells #[.int .i32 x1,.string x2] 102)).drew w1→Blk w1 w0.heap.size #[.int .i32 x1,.string x2] 102∧BkV w1 BB BU BV B T):=kz (fun w1 h1 =>⟨bX.below h1 bX.lt,hU.below h1⟩);have HB:=kz hB0;have HO:=kz hO;have HZ:=kz hz;have HN:=kz hn;have H32:=kz h32;obtain ⟨bb,hbb⟩:∃ bb,(zk x2).any (fun r => !zO T r || Yd T.lk r)=bb:=⟨_,rfl⟩;rw [hbb];obtain ⟨z,hzz⟩:∃ z:Int,(if bb=true then 36 else 0)=z:=⟨_,rfl⟩;rw [hzz];have HV:=kz hbb;have HZZ:=kz hzz;clear hB0 bX hU h hO hz hn h32 hbb hzz;go_enter Tryz.func166,Tryz.ntmps166;go_wp2_with fail
 generalize (w0.alloc _)=wz at *;refine zn hmx 6 (by decide) (by kernel_rfl) (by kernel_rfl) (fun l a w => ∃ U:Nat→Value,a = { tmps:=#[.agg #[.int .i32 x1,.string x2],.pointer (some ⟨BV,0,none⟩),.pointer (some ⟨w0.heap.size,0,none⟩),.int .i64 0,U 0,U 1,U 2,U 3,U 4,U 5],defers := [] }∧RgJ (wz.drew) (wz.drew.heap.size) (zjP w0.heap.size x2 (.func (.func 163) #[] #[.pointer (some ⟨BB,0,none⟩),.pointer (some ⟨BU,0,none⟩)]) bb z) zjO l U w) ⟨fun _ =>undef,rfl,RgJ.start _ _ zD⟩ ?_ ?_
 ·rintro l a w i ⟨U,rfl,hJ⟩ hl hi hif;have h0:=(mem_ready.1 hi).1;have hlt:=Xo hl h0;have HJ:=kz hJ;clear hJ hl
  replace hlt:i < 7:=hlt
  obtain rfl | rfl | rfl | rfl | rfl | rfl:i=0∨i=1∨i=2∨i=3∨i=4∨i=5:=by omega
  any_goals refine Ky rfl (fun K hK =>?_)
  ·clear hlt hif;go_simp;exact hK _ _ ⟨za U 0 _,rfl,(oz HJ).put 0 _ h0 zl (Jo zl) rfl Jp (zJ rfl)⟩
  ·clear hlt hif;have d0:U 0=.pointer (some ⟨w0.heap.size,1,none⟩):=(oz HJ).val 0 (zb hi 0 (by kernel_rfl));have q1:=(oz HF w (oz HJ).bel).1.cell 1;go_simp;exact hK _ _ ⟨za U 1 _,(by rw [zc d0];rfl),(oz HJ).put 1 _ h0 zl (Jo zl) rfl Jp (zJ rfl)⟩
  ·clear hlt hif;have d1:U 1=.string x2:=(oz HJ).val 1 (zb hi 1 (by kernel_rfl));go_simp;refine (zaz x2 (oz HZ) _).mono ?_;rintro e w' ⟨g2,c2,rfl,hg2,hrn,hb⟩;exact hK _ _ ⟨za U 2 _,(by rw [zc d1];rfl),(oz HJ).put 2 _ h0 hb (Jo hb) ⟨g2,c2,rfl,hrn⟩ Jp (zJ rfl)⟩
  ·clear hlt hif;have q2:=(oz HF w (oz HJ).bel).2.bv.cell 0;go_simp;exact hK _ _ ⟨za U 3 _,rfl,(oz HJ).put 3 _ h0 zl (Jo zl) rfl Jp (zJ rfl)⟩
  ·clear hlt hif;obtain ⟨g2,c2,d2,h2⟩:=(oz HJ).val 2 (zb hi 2 (by kernel_rfl));have d3:U 3=.func (.func 163) #[] #[.pointer (some ⟨BB,0,none⟩),.pointer (some ⟨BU,0,none⟩)]:=(oz HJ).val 3 (zb hi 3 (by kernel_rfl));go_simp;refine (Xe (zk x2) (oz HN) _ _ 163 #[] #[.pointer (some ⟨BB,0,none⟩),.pointer (some ⟨BU,0,none⟩)] eg (fun r => !zO T r || Yd T.lk r) w (zca h2) (fun x hx w1 hb1 =>(zeB (oz HO) BB BU B x (oz H32 x hx) w1 ((oz HF w (oz HJ).bel).2.bu.below hb1)).mono (fun e w2 ⟨he,hw⟩ =>⟨he,hb1.trans (hw.mono hb1.size)⟩))).mono ?_;rintro e w' ⟨he,hb⟩;rw [oz HV] at he;subst he;exact hK _ _ ⟨za U 4 _,(by rw [zc d2,zc d3];rfl),(oz HJ).put 4 _ h0 hb (Jo hb) rfl Jp (zJ rfl)⟩
  ·clear hlt hif;have d4:U 4=.bool bb:=(oz HJ).val 4 (zb hi 4 (by kernel_rfl));go_simp;refine (zK bb 36 w).mono ?_;rw [oz HZZ];rintro e w' ⟨rfl,rfl⟩;exact hK _ _ ⟨za U 5 _,(by rw [zc d4];rfl),(oz HJ).put 5 _ h0 zl (Jo zl) rfl Jp (zJ rfl)⟩
 ·rintro l a w ⟨U,rfl,hJ⟩ hall;have d5:U 5=.int .i64 z:=hJ.val 5 (hall 5 (by decide) (by decide));have HBJ:=kz ((oz HB).trans (hJ.bel.mono (oz HB).size));clear hJ hall;refine Ky rfl (fun K hK =>?_);go_simp;refine hK _ _ ?_;clear hK;go_wp2_with fail
  go_ret;exact ⟨rfl,oz HBJ⟩
theorem KE (list:Int) (zs:List (Int × Int × Int)) (hn:zs.length≤1000000) (a:Option Addr) (c G:Nat) (fs lb:Array Value) (eg:∀ args w,(callFunc G args).run Tryz.prog w=.ok (.enter G args) w)
  (f:Nat→Int) (X:Nat→Prop) (J:Nat→World→Prop) (lo:Nat) (W:World) (hlo:lo≤W.heap.size) (hX:∀ b,X b→lo≤b∧b < W.heap.size) (hr:RowC W lo a (Xh zs)) (h0:J 0 W)
  (hst:∀ i w w',J i w→Below w.heap.size w w'→J i w')
  (hcall:∀ (i:Nat) (x:(Int × Int × Int)) (w:World),zs[i]?=some x→KeptX X W w→J i w→Calls Tryz.prog G (fs++#[.agg #[.int .i32 x.1,.int .i32 x.2.1,.int .i32 x.2.2]]++lb) w fun e w' =>e=.returned (.int .i64 (f i))∧J (i+1) w'∧KeptX X w w') :
  Calls Tryz.prog 129 #[.int .i64 list,.slice a zs.length c,.func (.func G) fs lb] W fun e w' =>e=.returned (wrV (zG list zs.length f))∧KeptX X W w':=by
 have hB0:Below W.heap.size W (W.alloc (.cells #[.int .i64 0,.int .i64 0,.int .i64 0] 89)):=(Below.refl _ W).alloc zD _;have HS0:=kz (yB (zt hB0 X) (yB (Blk.new W #[.int .i64 0,.int .i64 0,.int .i64 0] 89) (hst 0 _ _ h0 hB0)));have HA:=kz hr;have HX:=kz (yB hlo hX);have HC:=kz (yB hst hcall);clear hB0 hr hlo hX hst hcall h0;go_enter Tryz.func129,Tryz.ntmps129;go_wp2;generalize W.alloc _=w1 at *;go_loopw [7,8,9,12] (fun _ _ _ s12 wr => ∃ k:Nat,k≤zs.length∧s12=.int .i64 k∧Hz (∀ i,i < k→f i=0)∧Hz (KeptX X W wr∧Blk wr W.heap.size #[.int .i64 0,.int .i64 0,.int .i64 0] 89∧J k wr)) (fun _ _ _ s12 _ =>zs.length - (intOf s12).toNat)
 case atStart =>exact ⟨0,Zn _,rfl,kz (fun i hi =>absurd hi (Nat.not_lt_zero _)),HS0⟩
 case round =>
  obtain ⟨k,hk,rfl,HF,HS⟩:=hrel;clear HS0;by_cases hkn:k < zs.length
  ·obtain ⟨x,hx⟩:∃ x,zs[k]?=some x:=⟨_,qR hkn⟩;obtain ⟨g,q,rfl,hg,hc⟩:=oz HA (by rw [Zw];omega);have e0:W.cell? ⟨g,q+k*3,none⟩=some (.int .i32 x.1):=hc _ _ (Yk _ k x hx).1;have e1:W.cell? ⟨g,q+k*3+1,none⟩=some (.int .i32 x.2.1):=hc _ _ (Yk _ k x hx).2.1;have e2:W.cell? ⟨g,q+k*3+2,none⟩=some (.int .i32 x.2.2):=hc _ _ (Yk _ k x hx).2.2;have hgX:¬ X g:=fun q =>by have:=(oz HX).2 g q;omega
   have hgW:g < W.heap.size:=by have:=(oz HX).1;omega
   have c0:wr.cell? ⟨g,q+k*3,none⟩=some (.int .i32 x.1):=((oz HS).1.cell (p:=⟨g,q+k*3,none⟩) hgW hgX).trans e0;have c1:wr.cell? ⟨g,q+k*3+1,none⟩=some (.int .i32 x.2.1):=((oz HS).1.cell (p:=⟨g,q+k*3+1,none⟩) hgW hgX).trans e1;have c2:wr.cell? ⟨g,q+k*3+2,none⟩=some (.int .i32 x.2.2):=((oz HS).1.cell (p:=⟨g,q+k*3+2,none⟩) hgW hgX).trans e2;have hB:Below wr.heap.size wr (wr.alloc (.cells #[.int .i32 x.1,.int .i32 x.2.1,.int .i32 x.2.2] 100)):=(Below.refl _ wr).alloc zD _;have HL:=kz (oz HC).2;have HCL:=kz (oz HL k x (wr.alloc (.cells #[.int .i32 x.1,.int .i32 x.2.1,.int .i32 x.2.2] 100)) hx ((oz HS).1.trans (zt hB X)) ((oz HC).1 k _ _ (oz HS).2.2 hB));have HR:=kz (((oz HS).1.trans (zt hB X)));have HRB:=kz ((oz HS).2.1.alloc (.cells #[.int .i32 x.1,.int .i32 x.2.1,.int .i32 x.2.2] 100));have HRX:Hz (¬ X W.heap.size):=kz (fun q =>by have:=(oz HX).2 _ q;omega);have hk1:(k:Int) < (zs.length:Int):=by omega
   have hk2:=Zp k
   have HFK:Hz (f k=0→∀ i,i < k+1→f i=0):=kz (fun h i hi =>by
    rcases Nat.lt_or_ge i k with h1 | h1
    ·exact oz HF i h1
    ·obtain rfl:i=k:=by omega
     exact h)
   have HFB:Hz (f k≠0→zG list zs.length f=(f k,list,(k:Int))):=kz (fun h =>yU k hkn (oz HF) h);obtain ⟨x1,x2,x3⟩:=x;dsimp only at c0 c1 c2 HCL HR HRB;clear hx hc hB HL HS HF e0 e1 e2 hgX hgW hg;generalize f k=y at *;by_cases hy:y=0
   ·subst hy;have HFK2:=kz (oz HFK rfl);clear HFK HFB;go_wp2_with (go_at_fn G;refine (oz HCL).mono ?_;rintro e w' ⟨rfl,hj',hk'⟩)
    exact ⟨⟨k+1,by omega,by go_num,HFK2,kz ⟨(oz HR).trans hk',hk'.blk (oz HRB) (oz HRX),hj'⟩⟩,by simp [intOf];omega⟩
   ·have hy1:(y == 0)=false:=by simpa using hy
    have HFB2:=kz (oz HFB hy);clear HFK HFB;go_wp2_with (go_at_fn G;refine (oz HCL).mono ?_;rintro e w' ⟨rfl,hj',hk'⟩;have HRB2:=kz (hk'.blk (oz HRB) (oz HRX));have r0:=(oz HRB2).cell 0;have r1:=(oz HRB2).cell 1;have r2:=(oz HRB2).cell 2;have f0:=(oz HRB2).frozen 0;have f1:=(oz HRB2).frozen 1;have f2:=(oz HRB2).frozen 2)
    rw [oz HFB2];exact XS (v:=wrV (y,list,(k:Int))) (jA Tryz.results129 rfl (jG (oz HRB2) _ _ _) rfl) rfl ⟨rfl,((oz HR).trans hk').set3 zD _ _ _⟩
  ·have hk1:¬ (k:Int) < (zs.length:Int):=by omega
   have HO2:Hz (zG list zs.length f=(0,0,0)):=kz (jW (fun i hi =>oz HF i (by omega)));have r0:=(oz HS).2.1.cell 0;have r1:=(oz HS).2.1.cell 1;have r2:=(oz HS).2.1.cell 2;have f0:=(oz HS).2.1.frozen 0;have f1:=(oz HS).2.1.frozen 1;have f2:=(oz HS).2.1.frozen 2;go_wp2_with fail
   rw [oz HO2];exact XS (v:=wrV (0,0,0)) (jA Tryz.results129 rfl (jG (oz HS).2.1 _ _ _) rfl) rfl ⟨rfl,(oz HS).1.set3 zD _ _ _⟩
theorem zkF {v:Value} {k:Lit} (h:keyOf Tryz.prog 21 v=some k):∃ r,v=.int .i32 r∧k=.int .i32 r∧R32 r:=by
 rw [keyOf_int Tryz.underlying21] at h;unfold mapKey at h;rw [Tryz.underlying21] at h;cases v <;> simp at h
 obtain ⟨⟨rfl,hw⟩,rfl⟩:=h;refine ⟨_,rfl,rfl, ?_⟩;simp [Lit.wf,IntKind.min,IntKind.max,IntKind.signed,IntKind.bits] at hw;exact hw
theorem zfQ {P:Program} {w:World} {k:TypeId} {R:Value→Option (DataW Unit × List MemPlace)} {b n:Nat} {es:List (Lit × DataW Unit)} (h:w.ownsMap P k R b n (.map es)):∀ p ∈ es, ∃ v,keyOf P k v=some p.1:=by
 obtain ⟨es0,clock,_,F,_,e⟩:=h;injection e with e;subst e;intro p hp;obtain ⟨x,hx,rfl⟩:=List.mem_map.1 (mem_sorted.1 hp);obtain ⟨y,hy⟩:=F.reads x hx;exact ⟨x.key,by rw [WideElems.rg_of hy];exact WideElems.rd_key hy⟩
theorem zhQ {w:World} {R:Value→Option (DataW Unit × List MemPlace)} {M n:Nat} {D:DataW Unit} (ho:w.ownsMap Tryz.prog 21 R M n D) (ks:List Int) (hnd:ks.Pairwise (·≠·)) (h32:∀ r ∈ ks,R32 r) (hk:∀ r,R32 r→(Maps.has D (.int .i32 r)=true ↔ r ∈ ks)):Maps.size D=ks.length:=by
 obtain ⟨es,rfl,hp,hkl⟩:=ho.entries (int_keyed Tryz.underlying21);have hkeys:=zfQ ho;have e1:(es.map (·.1)).Perm (ks.map (fun r =>Lit.int .i32 r)):=by
  refine (List.perm_ext_iff_of_nodup ?_ ?_).2 (fun a =>?_)
  ·rw [List.nodup_iff_pairwise_ne,List.pairwise_map];exact hp
  ·rw [List.nodup_iff_pairwise_ne,List.pairwise_map];exact hnd.imp (fun h e =>h (by injection e))
  ·rw [List.mem_map,List.mem_map];constructor
   ·rintro ⟨p,hpm,rfl⟩;obtain ⟨v,hv⟩:=hkeys p hpm;obtain ⟨r,_,e,hr⟩:=zkF hv;refine ⟨r,(hk r hr).1 ?_,e.symm⟩;rw [← e];exact List.any_eq_true.2 ⟨p,hpm,WideAt.sameKey_self (hkl p hpm)⟩
   ·rintro ⟨r,hr,rfl⟩;obtain ⟨p,hpm,hs⟩:=List.any_eq_true.1 ((hk r (h32 r hr)).2 hr);exact ⟨p,hpm,WideAt.sameKey_eq hs⟩
 have:=e1.length_eq;rw [List.length_map,List.length_map] at this;exact this
theorem PaAt.len {T:TV} (hO:zx T) {w:World} {M n:Nat} (h:PaAt w M n T.pr) (ty:TypeId):(Builtin.len_ #[150] ty #[.map (some M)]).run Tryz.prog w=.ok (.int .i64 (T.pr.length:Nat)) w:=by
 obtain ⟨G,⟨D,ho,hD⟩,hg⟩:=h.mp;rw [ho.len Tryz.underlying150 ty];have:=zhQ ho (T.pr.map (·.1)) (by rw [List.pairwise_map];exact hO.t3) (fun r hr =>by
  obtain ⟨x,hx,rfl⟩:=List.mem_map.1 hr;exact Xc (hO.f3 x hx).1) (fun r hr =>by
  rw [(hD (.int .i32 r) trivial).1,List.mem_map];rcases hg r hr with ⟨h1,h2⟩ | ⟨x,hx,e,h2⟩
  ·rw [h2];constructor
   ·intro q;cases q
   ·rintro ⟨x,hx,e⟩;exact absurd e (h1 x hx)
  ·rw [h2];exact ⟨fun _ =>⟨x,hx,e⟩,fun _ =>rfl⟩)
 rw [this,List.length_map]
theorem zgK {T:TV} {r:Int} {q:Int × Int × Int} (h:jI T r=some q):q ∈ T.pr:=List.mem_of_find?_eq_some h
structure ChS (w wr:World) (B:Nat) (T:TV) (b0:Int) (n:Nat) (cur:Int):Prop where
 n1:1≤n
 nl:n≤T.pr.length
 ch:Xf T T.pr.length b0 1=Xf T (T.pr.length - n+1) cur n
 bl:Below w.heap.size w wr
 bk:BookAt wr B T
theorem zcS {T:TV} (hO:zx T) (B:Nat) (x:Int × Int × Int) (hx:x ∈ T.pr) (w:World) (h:BookAt w B T) :
  Calls Tryz.prog 154 #[.pointer (some ⟨B,0,none⟩),.agg #[.int .i32 x.1,.int .i32 x.2.1,.int .i32 x.2.2]] w fun e w' =>e=.returned (.int .i64 (prR T x))∧Below w.heap.size w w':=by
 have hlen:0 < T.pr.length:=List.length_pos_of_mem hx;have hL:=hO.l3;have h2:=Xc (hO.f3 x hx).2.1;obtain ⟨x1,x2,x3⟩:=x;dsimp only at h2 ⊢;have hB:Below w.heap.size w (w.alloc (.cells #[.int .i32 x1,.int .i32 x2,.int .i32 x3] 100)):=(Below.refl _ w).alloc zD _;have q1:=(Blk.new w #[.int .i32 x1,.int .i32 x2,.int .i32 x3] 100).cell 1;have HP:=kz (zaf hO B x2 h2 _ (h.below hB));have HB:=kz (yB hB (h.below hB));have HPR:Hz (∀ m,Xf T T.pr.length x2 1=m→prR T (x1,x2,x3)=match m with | none =>33 | some n =>if 4 < n then 34 else 0):=kz (fun m e =>by unfold prR;dsimp only;rw [e];cases m <;> rfl);have HO:=kz hO;clear hB h hO h2 hx;go_enter Tryz.func154,Tryz.ntmps154;go_wp2_with fail
 refine (oz HP).mono ?_;rintro e w2 ⟨rfl,hb⟩;have H0:Hz (ChS w w2 B T x2 1 x2):=kz ⟨zD,hlen,by rw [Nat.sub_add_cancel hlen],(oz HB).1.trans (hb.mono (oz HB).1.size),(oz HB).2.below hb⟩;clear hb HB HP q1;unfold zgC;obtain ⟨bs,hbs⟩:∃ bs,((jI T x2).map (·.2.1)).getD 0=bs:=⟨_,rfl⟩;obtain ⟨mk,hmk⟩:∃ mk,((jI T x2).map (·.2.2)).getD 0=mk:=⟨_,rfl⟩;obtain ⟨mo,hmo⟩:∃ mo,(jI T x2).isSome=mo:=⟨_,rfl⟩;rw [hbs,hmk,hmo];have H0':Hz (∃ cur,((jI T cur).map (·.2.1)).getD 0=bs∧(jI T cur).isSome=mo∧ChS w w2 B T x2 1 cur):=kz ⟨x2,hbs,hmo,oz H0⟩;clear hbs hmk hmo H0;go_wp2_with fail
 go_loopw [5,6,8] (fun s5 s6 s8 wr => ∃ (n:Nat) (bs:Int) (mo:Bool),n≤4096∧s5=.int .i64 n∧s6=.int .i32 bs∧s8=.bool mo∧Hz (∃ cur,((jI T cur).map (·.2.1)).getD 0=bs∧(jI T cur).isSome=mo∧ChS w wr B T x2 n cur)) (fun s5 _ _ _ =>T.pr.length - (intOf s5).toNat)
 case atStart =>exact ⟨1,bs,mo,by omega,rfl,rfl,rfl,H0'⟩
 case round =>
  clear H0';obtain ⟨n,bs1,mo1,hn,rfl,rfl,rfl,HS⟩:=hrel;obtain ⟨cur,hbs,hmo,hS⟩:=oz HS;clear HS;cases hq:jI T cur with
  | none =>
   rw [hq] at hmo;obtain rfl:mo1=false:=hmo.symm;have HV:Hz (prR T (x1,x2,x3)=if 4 < n then 34 else 0):=kz (oz HPR (some n) (by
    rw [hS.ch];show (match jI T cur with | none =>some n | some q =>_)=_;rw [hq]))
   have HS:=kz hS;clear hS hbs hmo hq HPR;by_cases h4:4 < n
   ·have h4':(4:Int) < (n:Int):=by omega
    go_wp2_with fail
    refine (zK true 34 _).mono ?_;rintro e w5 ⟨rfl,hw⟩;rw [hw];clear hw;go_wp2_with fail
    go_ret;exact ⟨by rw [oz HV,if_pos h4];rfl,(oz HS).bl⟩
   ·have h4':¬ (4:Int) < (n:Int):=by omega
    go_wp2_with fail
    refine (zK false 34 _).mono ?_;rintro e w5 ⟨rfl,hw⟩;rw [hw];clear hw;go_wp2_with fail
    go_ret;exact ⟨by rw [oz HV,if_neg h4];rfl,(oz HS).bl⟩
  | some q =>
   rw [hq] at hmo hbs;obtain rfl:mo1=true:=hmo.symm;obtain rfl:q.2.1=bs1:=hbs;obtain ⟨M,mn,c13,hpa⟩:=hS.bk.pas;have hle:=hpa.len (oz HO);have hch:Xf T T.pr.length x2 1=Xf T (T.pr.length - n) q.2.1 (n+1):=by
    rw [hS.ch];show (match jI T cur with | none =>some n | some q =>_)=_;rw [hq]
   have hb32:=Xc ((oz HO).f3 q (zgK hq)).2.1;by_cases hl:n+1≤T.pr.length
   ·have hl':¬ (T.pr.length:Int) < (n:Int)+1:=by omega
    have HC:=kz (zaf (oz HO) B q.2.1 hb32 wr hS.bk);have HS:=kz (yB hch hS);have HL:=kz hl;obtain ⟨q1,q2,q3⟩:=q;dsimp only at HC HS ⊢;clear hch hS hq hmo hpa hb32 hl;go_wp2_with fail
    refine (oz HC).mono ?_;rintro e w5 ⟨rfl,hb⟩;have HN:Hz (ChS w w5 B T x2 (n+1) q2):=kz ⟨by omega,oz HL,by rw [(oz HS).1];congr 1;have:=oz HL;omega,(oz HS).2.bl.trans (hb.mono (oz HS).2.bl.size),(oz HS).2.bk.below hb⟩;clear hb HC hle c13;unfold zgC;obtain ⟨bs2,hbs⟩:∃ bs,((jI T q2).map (·.2.1)).getD 0=bs:=⟨_,rfl⟩;obtain ⟨mk,hmk⟩:∃ mk,((jI T q2).map (·.2.2)).getD 0=mk:=⟨_,rfl⟩;obtain ⟨mo2,hmo⟩:∃ mo,(jI T q2).isSome=mo:=⟨_,rfl⟩;rw [hbs,hmk,hmo];have HN':Hz (∃ cur,((jI T cur).map (·.2.1)).getD 0=bs2∧(jI T cur).isSome=mo2∧ChS w w5 B T x2 (n+1) cur):=kz ⟨q2,hbs,hmo,oz HN⟩;clear hbs hmk hmo HN;go_wp2_with fail
    exact ⟨⟨n+1,bs2,mo2,by have:=oz HL;omega,by go_num,rfl,rfl,HN'⟩,by have:=oz HL;simp [intOf];omega⟩
   ·have hl':(T.pr.length:Int) < (n:Int)+1:=by omega
    have HV:Hz (prR T (x1,x2,x3)=33):=kz (oz HPR none (by
     rw [hch,show T.pr.length - n=0 by omega];rfl))
    have HS:=kz hS;clear hch hS hq hmo hpa hb32 HPR;go_wp2_with fail
    go_ret;exact ⟨by rw [oz HV];rfl,(oz HS).bl⟩
end Go.Proofs.YthchopdfmchpkaaGreat
