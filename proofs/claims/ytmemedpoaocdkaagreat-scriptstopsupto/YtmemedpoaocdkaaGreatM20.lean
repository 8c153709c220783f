/- Texts of this claim, one behind the other. -/
import Derived.Shelf.SlSortCmp.WholeK
import Derived.Test.YtmemedpoaocdkaaGreatProg
import Derived.Test.YtmemedpoaocdkaaGreatM19
import Derived.Shelf.SlSortCmp.NoneTotal
import Derived.Test.YtmemedpoaocdkaaGreatM18
import Derived.Test.YtmemedpoaocdkaaGreatShS
import Derived.Test.YtmemedpoaocdkaaGreatM3
import Derived.Test.YtmemedpoaocdkaaGreatM2
import Derived.OwnWalk
/- The library's contract of slices.SortFunc, laid at this program: each field a fact of the program. -/
namespace Go.Proofs.YtmemedpoaocdkaaGreat
open Go.Shelf
def zmJ:Go.Shelf.Ren:=⟨fun | 6 =>185 | 15 =>201 | 14 =>200 | 28 =>215 | 29 =>216 | 20 =>207 | 21 =>208 | 22 =>209 | 23 =>210 | 24 =>211 | 25 =>212 | 26 =>213 | 27 =>214 | 46 =>219 | 47 =>220 | 48 =>221 | 49 =>222 | 50 =>223 | 57 =>224 | n =>n,fun | 22 =>23 | 24 =>113 | 25 =>209 | 3 =>3 | 39 =>121 | 0 =>0 | 53 =>238 | 55 =>240 | 4 =>4 | 46 =>232 | 45 =>231 | 50 =>146 | 5 =>5 | 9 =>9 | 66 =>242 | 70 =>246 | 76 =>248 | 77 =>249 | n =>n,fun | n =>n⟩
theorem zro:Go.Proofs.SlLaysF0.n6 Tryz.prog zmJ:={
 mixed:=by kernel_rfl
 f6:=⟨Tryz.f185.name,by decide,Tryz.func185.trans (congrArg some (by kernel_rfl))⟩
 f14:=⟨Tryz.f200.name,by decide,Tryz.func200.trans (congrArg some (by kernel_rfl))⟩
 f15:=Tryz.func201.trans (congrArg some (by kernel_rfl))
 f20:=⟨Tryz.f207.name,by decide,Tryz.func207.trans (congrArg some (by kernel_rfl))⟩
 f21:=⟨Tryz.f208.name,by decide,Tryz.func208.trans (congrArg some (by kernel_rfl))⟩
 f22:=⟨Tryz.f209.name,by decide,Tryz.func209.trans (congrArg some (by kernel_rfl))⟩
 f23:=⟨Tryz.f210.name,by decide,Tryz.func210.trans (congrArg some (by kernel_rfl))⟩
 f24:=⟨Tryz.f211.name,by decide,Tryz.func211.trans (congrArg some (by kernel_rfl))⟩
 f25:=⟨Tryz.f212.name,by decide,Tryz.func212.trans (congrArg some (by kernel_rfl))⟩
 f26:=⟨Tryz.f213.name,by decide,Tryz.func213.trans (congrArg some (by kernel_rfl))⟩
 f27:=⟨Tryz.f214.name,by decide,Tryz.func214.trans (congrArg some (by kernel_rfl))⟩
 f28:=Tryz.func215.trans (congrArg some (by kernel_rfl))
 f29:=Tryz.func216.trans (congrArg some (by kernel_rfl))
 f46:=⟨Tryz.f219.name,by decide,Tryz.func219.trans (congrArg some (by kernel_rfl))⟩
 f47:=Tryz.func220.trans (congrArg some (by kernel_rfl))
 f48:=Tryz.func221.trans (congrArg some (by kernel_rfl))
 f49:=⟨Tryz.f222.name,by decide,Tryz.func222.trans (congrArg some (by kernel_rfl))⟩
 f50:=⟨Tryz.f223.name,by decide,Tryz.func223.trans (congrArg some (by kernel_rfl))⟩
 f57:=⟨Tryz.f224.name,by decide,Tryz.func224.trans (congrArg some (by kernel_rfl))⟩
 t0:=Tryz.underlying0
 a0:=Tryz.isAgg0
 z0:=Tryz.sizeOf0
 v0:=Tryz.zeroValue0
 t3:=Tryz.underlying3
 a3:=Tryz.isAgg3
 z3:=Tryz.sizeOf3
 v3:=Tryz.zeroValue3
 t4:=Tryz.underlying4
 a4:=Tryz.isAgg4
 z4:=Tryz.sizeOf4
 v4:=Tryz.zeroValue4
 t5:=Tryz.underlying5
 a5:=Tryz.isAgg5
 z5:=Tryz.sizeOf5
 v5:=Tryz.zeroValue5
 t9:=Tryz.underlying9
 a9:=Tryz.isAgg9
 z9:=Tryz.sizeOf9
 v9:=Tryz.zeroValue9
 t22:=Tryz.underlying23
 a22:=Tryz.isAgg23
 z22:=Tryz.sizeOf23
 v22:=Tryz.zeroValue23
 t25:=Tryz.underlying209
 a25:=Tryz.isAgg209
 z25:=Tryz.sizeOf209
 v25:=Tryz.zeroValue209
 t39:=Tryz.underlying121
 a39:=Tryz.isAgg121
 z39:=Tryz.sizeOf121
 v39:=Tryz.zeroValue121
 t45:=Tryz.underlying231
 a45:=Tryz.isAgg231
 z45:=Tryz.sizeOf231
 v45:=Tryz.zeroValue231
 t46:=Tryz.underlying232
 a46:=Tryz.isAgg232
 z46:=Tryz.sizeOf232
 v46:=Tryz.zeroValue232
 t50:=Tryz.underlying146
 a50:=Tryz.isAgg146
 z50:=Tryz.sizeOf146
 v50:=Tryz.zeroValue146
 t53:=Tryz.underlying238
 a53:=Tryz.isAgg238
 z53:=Tryz.sizeOf238
 v53:=Tryz.zeroValue238
 t55:=Tryz.underlying240
 a55:=Tryz.isAgg240
 z55:=Tryz.sizeOf240
 v55:=Tryz.zeroValue240
 t66:=Tryz.underlying242
 a66:=Tryz.isAgg242
 z66:=Tryz.sizeOf242
 v66:=Tryz.zeroValue242
 t70:=Tryz.underlying246
 a70:=Tryz.isAgg246
 z70:=Tryz.sizeOf246
 v70:=Tryz.zeroValue246
 t76:=Tryz.underlying248
 a76:=Tryz.isAgg248
 z76:=Tryz.sizeOf248
 v76:=Tryz.zeroValue248
 t77:=Tryz.underlying249
 a77:=Tryz.isAgg249
 z77:=Tryz.sizeOf249
 v77:=Tryz.zeroValue249 }
end Go.Proofs.YtmemedpoaocdkaaGreat
namespace Go.Proofs.YtmemedpoaocdkaaGreat
open Go.RowKit Go.Shelf
open Go.Sort (HoldsK putRowK flatK size_flatK get_flatK)
set_option linter.unusedVariables false
def znI (x:Int × Int):List Value := [.int .i32 x.1,.int .i32 x.2]
theorem zpg (x y:Int × Int) (W:World):Calls Tryz.prog 186 #[zn4 x,zn4 y] W fun e w' =>e=.returned (.int .i64 (zc3 x.1 y.1))∧∃ q os',w'=Go.Sort.grow (W.drewN q) os':=by
 have HC:=kz (fun w =>zfw x.1 y.1 w)
 obtain ⟨lo,hi⟩:=x
 obtain ⟨mo,mi⟩:=y
 simp only at HC
 go_enter Tryz.func186,Tryz.ntmps186
 go_wp2_with fail
 refine (oz HC _).mono ?_
 rintro e w2 ⟨rfl,rfl⟩
 go_wp2
 go_ret
 exact ⟨rfl,0,_,by rw [Go.Sort.alloc_eq_grow,Go.Sort.alloc_eq_grow,Go.Sort.grow_grow];rfl⟩
theorem ltQ (x y:Int × Int):ltOf (fun x y:Int × Int =>zc3 x.1 y.1) x y=decide (x.1 < y.1):=by
 unfold ltOf zc3
 by_cases h1:x.1 < y.1
 ·simp [h1]
 ·by_cases h2:y.1 < x.1 <;> simp [h1,h2]
theorem zsr:Go.Sort.SWO (ltOf fun x y:Int × Int =>zc3 x.1 y.1) where
 irrefl x:=by rw [ltQ];simp
 trans x y z h1 h2:=by rw [ltQ] at *;simp at *;omega
 ntrans x y z h1 h2:=by rw [ltQ] at *;simp at *;omega
theorem zpI (blk off size:Nat) (w:World):CmpLays Tryz.prog 186 #[] znI 2 (fun x y =>zc3 x.1 y.1) blk off size w:=fun _ _ _ _ x y =>zpg x y _
theorem zrE {W:World} {base g cap:Nat} {l:List (Int × Int)} (h:W.ownsRow base 113 2 (.slice (some ⟨g,0,none⟩) l.length cap) l.length (zdC l)):HoldsK znI 2 W g 0 l.toArray:=by
 intro j hj
 rw [size_flatK] at hj
 simp only [List.size_toArray] at hj
 rw [get_flatK _ _ _ _ (by simpa using hj),Nat.zero_add]
 obtain ⟨x,hx⟩:∃ x,l[j / 2]?=some x:=⟨_,List.getElem?_eq_getElem (by omega)⟩
 have hx':l.toArray[j / 2]! = x:=by simp [getElem!_def,hx]
 have e:=zht l _ x hx
 refine ⟨?_,h.frozenAt j⟩
 rw [h.cellAt j hj,hx']
 rcases Nat.mod_two_eq_zero_or_one j with m | m
 ·have:j / 2*2=j:=by omega
  rw [this] at e
  rw [e.1,m]
  rfl
 ·have:j / 2*2+1=j:=by omega
  rw [this] at e
  rw [e.2,m]
  rfl
theorem zss {W:World} {g:Nat} {d:Array (Int × Int)} (h:HoldsK znI 2 W g 0 d) (hg:g < W.heap.size):RowP W (some ⟨g,0,none⟩) d.toList:=fun h0 =>by
 refine ⟨g,0,rfl,hg,fun j x hj =>?_⟩
 have hl:=(List.getElem?_eq_some_iff.1 hj).1
 simp only [Array.length_toList] at hl
 have hx:d[j]! = x:=by
  have:d[j]?=some x:=by simpa using hj
  simp [getElem!_def,this]
 have a:=(h.cell (i:=j) (c:=0) hl (by omega)).1
 have b:=(h.cell (i:=j) (c:=1) hl (by omega)).1
 rw [hx] at a b
 exact ⟨a,b⟩
theorem zgK {base blk off n:Nat} {W:World} {d:Array (Int × Int)} {os:Array Obj} (hb:base≤blk) (hlt:blk < W.heap.size):Below base W (Go.Proofs.sortWorldK znI 2 W blk off n d os):=by
 refine ⟨rfl,rfl,rfl,size_sortWorldK_c znI 2 W blk off n d os,fun k hk =>?_⟩
 have hkl:k < (putRowK znI 2 (Go.Sort.ahead W n) blk off d).heap.size:=by
  rw [show (putRowK znI 2 (Go.Sort.ahead W n) blk off d).heap.size=W.heap.size from Go.Sort.size_putRow _ _ _ _ _]
  omega
 show (_++os)[k]?=_
 rw [Array.getElem?_append_left hkl]
 show (Array.modify W.heap blk _)[k]?=_
 rw [Array.getElem?_modify,if_neg (by omega)]
theorem zo0 (v:Value) (l:List (Int × Int)) (base:Nat) (hl:l.length≤1000000) (w:World) (h:w.ownsRow base 113 2 v l.length (zdC l)) :
  Calls Tryz.prog 185 #[v,.func (.func 186) #[] #[]] w fun e w' =>e=.returned (.tuple #[])∧∃ (d:List (Int × Int)) (a:Option Addr) (c:Nat),v=.slice a d.length c∧d.Perm l∧RisingL d∧RowP w' a d∧Below base w w':=by
 by_cases h0:l.length=0
 ·have:l=[]:=List.eq_nil_of_length_eq_zero h0
  subst this
  obtain ⟨a,c,rfl,_,_,_⟩:=ziB h
  refine (AnyF.slices_SortFunc_none zro a c _ w).mono fun e w' ⟨he,hw⟩ =>?_
  subst hw
  exact ⟨he,[],a,c,rfl,List.Perm.refl _,fun i j x y _ h =>by simp at h,fun h =>by simp at h,Below.refl _ _⟩
 ·obtain ⟨g,cap,rfl,hg0,hg⟩:=h.form (by omega)
  have hH:=zrE h
  have eg:∀ args w,(callFunc 186 args).run Tryz.prog w=.ok (.enter 186 args) w:=enters_of Tryz.func186 (by kernel_rfl) rfl
  have hcon:=AnyQ.slices_SortFunc zro 2 Tryz.isAgg113 Tryz.sizeOf113 znI (fun _ =>rfl) (fun x v hv =>by simp [znI] at hv;rcases hv with rfl | rfl <;> rfl) (fun x y =>zc3 x.1 y.1) zsr 186 #[] g 0 cap l.toArray w eg (zpI g 0 l.toArray.size w) hH hg (by simp;omega)
  refine hcon.mono fun e w' ⟨he,d',n,os,hp,hs,hw⟩ =>?_
  subst hw
  have hsz:d'.size=l.length:=by simpa using hp.1
  have hH':=holdsK_sortWorldK_c znI 2 w g 0 l.toArray d' n os hH hg (by simpa using hp.1)
  refine ⟨he,d'.toList,some ⟨g,0,none⟩,cap,by simp [hsz], ?_, ?_, ?_,zgK hg0 hg⟩
  ·have:=hp.2.2
   have h':(List.take l.length d'.toList).Perm l:=by simpa [hsz, ← hp.1] using this
   rwa [List.take_of_length_le (by simp [hsz])] at h'
  ·intro i j x y hij hx hy
   have hi:=(List.getElem?_eq_some_iff.1 hx).1
   have hj:=(List.getElem?_eq_some_iff.1 hy).1
   simp only [Array.length_toList] at hi hj
   have e1:d'[i]! = x:=by
    have:d'[i]?=some x:=by simpa using hx
    simp [getElem!_def,this]
   have e2:d'[j]! = y:=by
    have:d'[j]?=some y:=by simpa using hy
    simp [getElem!_def,this]
   have:=hs i j (Nat.zero_le _) hij (by simp;omega)
   rw [ltQ,e1,e2] at this
   have:=of_decide_eq_false this
   omega
  ·exact zss hH' (by have:=size_sortWorldK_c znI 2 w g 0 n d' os;omega)
end Go.Proofs.YtmemedpoaocdkaaGreat
namespace Go.Proofs.YtmemedpoaocdkaaGreat
open Go.RowKit Go.Shelf
set_option linter.unusedVariables false
theorem zkp {l d:List (Int × Int)} (hp:d.Perm l) (hR:zbb l) (hr:RisingL d) (k:Nat):Spread (zbZ (d.take k))∧(zbZ (d.take k)).length≤d.length∧zbb d:=by
 have h1:zbb d:=fun x hx =>hR x (hp.mem_iff.1 hx)
 have h2:RisingL (d.take k):=fun i j x y hij hx hy =>by
  have a:=(List.getElem?_eq_some_iff.1 hx).1
  have b:=(List.getElem?_eq_some_iff.1 hy).1
  rw [List.length_take] at a b
  rw [List.getElem?_take,if_pos (by omega)] at hx hy
  exact hr i j x y hij hx hy
 have h:=zh5 _ (d.take k) rfl (fun x hx =>h1 x (List.mem_of_mem_take hx)) h2
 have:=h.2.2.1
 rw [List.length_take] at this
 exact ⟨h.1,by omega,h1⟩
theorem zlM {l d:List (Int × Int)} (hp:d.Perm l) (hR:zbb l) (hr:RisingL d):Spread (zbZ d)∧(zbZ d).length≤l.length∧∀ r,zan (zbZ d) r=zan l r:=by
 have h:=zh5 _ d rfl (fun x hx =>hR x (hp.mem_iff.1 hx)) hr
 exact ⟨h.1,by rw [← hp.length_eq];exact h.2.2.1,fun r =>(h.2.1 r).trans (zng hp r)⟩
set_option maxRecDepth 100000 in
set_option maxHeartbeats 4000000 in
theorem ziC (a:Option Addr) (cap:Nat) (l:List (Int × Int)) (hl:l.length≤1000000) (hR:zbb l) (w:World) (hr:RowP w a l) :
  Calls Tryz.prog 133 #[.slice a l.length cap] w fun e w' => ∃ (B lo0:Nat) (zs:List (Int × Int)),e=.returned (.tuple #[.pointer (some ⟨B,0,none⟩),.int .i64 0])∧w.heap.size≤lo0∧Made w' B lo0 zs∧Spread zs∧zs.length≤l.length∧(∀ r,zan zs r=zan l r)∧Below w.heap.size w w':=by
 have HN:=kz (zgH a cap l (by omega) w hr)
 have e1:(l.any fun x => !za8 x)=false:=by
  rw [List.any_eq_false]
  intro x hx
  simp [(hR x hx).1]
 have e2:(l.any fun x =>decide (x.2 < x.1))=false:=by
  rw [List.any_eq_false]
  intro x hx
  have:=(hR x hx).2
  simp;omega
 rw [e1] at HN
 have HF:=kz (fun w hr =>zgI a cap l (by omega) w hr)
 rw [e2] at HF
 have HR:=kz hr
 have HRR:=kz hR
 clear hr hR e1 e2
 go_enter Tryz.func133,Tryz.ntmps133
 go_wp2_with fail
 refine (oz HN).mono ?_
 rintro e w1 ⟨rfl,hb1⟩
 have HB1:=kz hb1
 clear hb1
 go_wp2_with fail
 refine (oz HF w1 ((oz HR).below (oz HB1))).mono ?_
 rintro e w2 ⟨rfl,hb2⟩
 have HB2:=kz ((oz HB1).trans (hb2.mono (oz HB1).size))
 clear hb2
 go_wp2_with fail
 refine (zlZ a cap l (by omega) w2 ((oz HR).below (oz HB2))).mono ?_
 rintro e w3 ⟨v,rfl,hown,hb3⟩
 have HO:=kz hown
 have HB3:=kz ((oz HB2).trans (hb3.mono (oz HB2).size))
 have HS2:=kz (oz HB2).size
 clear hown hb3
 go_wp2_with fail
 refine (zo0 v l _ (by omega) w3 (oz HO)).mono ?_
 rintro e w4 ⟨rfl,d,p,c,rfl,hperm,hris,hrow,hb4⟩
 have HB4:=kz ((oz HB3).trans (hb4.mono (oz HS2)))
 have HPm:=kz hperm
 have HRs:=kz hris
 have HRw:=kz hrow
 have hdl:d.length=l.length:=hperm.length_eq
 clear hperm hris hrow hb4 HO
 go_wp2
 have hz:(l.length:Int)≤1000000:=by omega
 go_loopw [20] (fun i wr => ∃ k:Nat,i=.int .i64 k∧k≤l.length∧Hz (Grows wr w4.heap.size w4.heap.size (zbZ (d.take k)))∧Hz (Below w4.heap.size w4 wr)) (fun i _ =>l.length - (intOf i).toNat)
 case atStart =>exact ⟨0,rfl,by omega,kz (zfU w4 _ rfl),kz ((Below.refl _ w4).alloc (Nat.le_refl _) _)⟩
 case round =>
  obtain ⟨k,rfl,hk,HG,HB⟩:=hrel
  by_cases hkn:k < l.length
  ·have hk1:(k:Int) < (l.length:Int):=by omega
   have hk2:((k:Nat):Int).toNat=k:=by omega
   obtain ⟨x,hx⟩:∃ x,d[k]?=some x:=⟨_,List.getElem?_eq_getElem (by omega)⟩
   have HT:=kz (zdS hx)
   obtain ⟨g,o,rfl,hg,hc⟩:=oz HRw (by omega)
   have c0:=((oz HB).cell (p:=⟨g,o+k*2,none⟩) hg).trans (hc k x hx).1
   have c1:=((oz HB).cell (p:=⟨g,o+k*2+1,none⟩) hg).trans (hc k x hx).2
   have HL:=kz (zkp (oz HPm) (oz HRR) (oz HRs) k)
   have HX:=kz ((oz HL).2.2 x (List.mem_of_getElem? hx))
   obtain ⟨lo,hi⟩:=x
   simp only at c0 c1
   have b1:=Blk.new wr #[.int .i32 lo,.int .i32 hi] 113
   have q0:=b1.cell 0
   have q1:=b1.cell 1
   have HB1:=kz ((oz HB).alloc (oz HB).size (.cells #[.int .i32 lo,.int .i32 hi] 113))
   have HG1:=kz ((oz HG).below ((Below.refl _ wr).alloc (Nat.le_refl _) (.cells #[.int .i32 lo,.int .i32 hi] 113)))
   clear b1 hc hx
   go_wp2_with fail
   refine (zkn w4.heap.size w4.heap.size (zbZ (d.take k)) (lo,hi) (by have:=(oz HL).2.1;omega) (oz HL).1 (oz HX).1 _ (oz HG1) (oz HB1).size).mono ?_
   rintro e w6 ⟨⟨r,rfl⟩,hG,hb,_⟩
   rw [← zhn, ← oz HT] at hG
   have HG2:=kz hG
   have HB2:=kz ((oz HB1).trans hb)
   clear hG hb
   go_wp2
   go_roundw
   case rel =>exact ⟨k+1,by congr 1,by omega,HG2,HB2⟩
   case measure =>simp [intOf];omega
  ·have hk1:¬ (k:Int) < (l.length:Int):=by omega
   obtain rfl:k=l.length:=by omega
   rw [List.take_of_length_le (by omega)] at HG
   have HE:=kz (zlM (oz HPm) (oz HRR) (oz HRs))
   go_wp2
   go_ret2
   exact ⟨w4.heap.size,rfl,w4.heap.size,(oz HB4).size,zbZ d,(oz HG).1,(oz HE).1,(oz HE).2.1,(oz HE).2.2,(oz HB4).trans ((oz HB).mono (oz HB4).size)⟩
theorem zic (s:ByteArray) (w:World) (hs:s.size≤1048576):Calls Tryz.prog 132 #[.string s] w fun e w' =>e=.returned (.string s)∧Below w.heap.size w w':=by
 have hc:=Any.stringslite_Clone layM316 s w (by omega)
 go_enter Tryz.func132,Tryz.ntmps132
 go_wp2_with fail
 refine (show Calls Tryz.prog 180 #[.string s] w _ from hc).mono ?_
 rintro e w' ⟨rfl,hb⟩
 go_wp2_with fail
 go_ret
 exact ⟨rfl,hb⟩
theorem zfW {w:World} {ops:Array Oper} {rest:List Oper} {o:Oper} {a:Act} {Q:Exit→Act→World→Prop} (hgd:o.guard=none) (s x:Operand) (T:TypeId)
  (ho:o.op=.call { callee := .builtin .append,args:=#[s,x],argTypes:=#[T,T] }) (base:Nat) (E:TypeId) (i:TypeInfo) (z:Value) (sz bytes:Nat) (hT:Tryz.prog.underlying T=some (.slice E)) (hi:Tryz.prog.info? E=some i∧i.zero=some z∧i.size=sz∧i.bytes=bytes) (hzs:z.cells.size=sz) (hs0:0 < sz) (hb8:bytes≤64)
  (hs:a.eval s=.slice none 0 0) (b:Option Addr) (c n:Nat) (xs:List Value) (hl:xs.length=n*sz) (hr:RowC w w.heap.size b xs) (h1:∀ u ∈ xs,u.oneCell'=true) (hx:a.eval x=.slice b n c) (hz:n≤1000000) (hbase:base≤w.heap.size)
  (h:∀ v' w',w'.ownsRow base E sz v' n xs→w.grownBy w' none→wpList Tryz.prog ops Q rest (a.put o.dst v') w'):wpList Tryz.prog ops Q (o::rest) a w:=by
 by_cases h0:n=0
 ·subst h0
  refine wpList_plain hgd fun K hK =>?_
  have hw:Region.wanted o (yielded ops a.tmps)=true:=by simp [Region.wanted,hgd]
  obtain rfl:xs=[]:=List.length_eq_zero_iff.1 (by rw [hl];omega)
  have:=zgE (w:=w) (P:=Tryz.prog) (ops:=ops) (Q:=Q) (K:=K) (E:=True) hgd s x T ho E i hT hi.1 hs b 0 c rfl hx (hK _ _ (h (.slice none 0 0) w (World.ownsRow_nil _ _ _ _) ⟨rfl,rfl,rfl,Nat.le_refl _,fun _ _ _ =>rfl⟩))
  rw [if_pos hw] at this
  exact this
 ·obtain ⟨g,off,rfl,hg,hc⟩:=hr (by rw [hl];exact Nat.mul_pos (by omega) hs0)
  refine wpList_append_own w hgd s x T ho base E i z sz bytes hT hi.1 hi.2.1 hi.2.2.1 hi.2.2.2 hzs hs0 (.slice none 0 0) 0 [] hs (World.ownsRow_nil _ _ _ _) ⟨g,off,none⟩ n c xs hx hl (fun j u hj =>by rw [zeb];exact hc j u hj) h1 (by unfold maxLen;omega) (by have:=Nat.mul_le_mul hz hb8;rw [Nat.zero_add];omega) hbase ?_
  intro v' w' ho' hg' _
  rw [Nat.zero_add,List.nil_append] at ho'
  exact h v' w' ho' hg'
set_option maxRecDepth 100000 in
theorem zfd (zs:List (Int × Int)) (hn:zs.length≤1000000) (a:Option Addr) (c:Nat) (W:World) (hr:RowC W W.heap.size a (zaW zs)) :
  Calls Tryz.prog 128 #[.slice a zs.length c] W fun e w' => ∃ v,e=.returned v∧w'.ownsRow W.heap.size 113 2 v zs.length (zaW zs)∧Below W.heap.size W w':=by
 obtain ⟨i,hi⟩:∃ i,Tryz.prog.info? 113=some i∧i.zero=some (.agg #[.int .i32 0,.int .i32 0])∧i.size=2∧i.bytes=8:=⟨_,rfl,by kernel_rfl,by kernel_rfl,by kernel_rfl⟩
 have HI:=kz hi
 have HR:=kz hr
 clear hi hr
 go_enter Tryz.func128,Tryz.ntmps128
 go_wp2_with (at_builtin;refine zfW (by rfl) _ _ 23 (by rfl) W.heap.size 113 i _ 2 8 Tryz.underlying23 (oz HI) rfl (by decide) (by decide) (by rfl) a c zs.length (zaW zs) (zeX zs) (oz HR) (znH zs) (by rfl) hn (Nat.le_refl _) ?_;intro v' w' hown hg)
 go_ret
 exact ⟨_,rfl,hown,⟨hg.os,hg.tape,hg.output,hg.size,fun k hk =>hg.block k hk (by simp)⟩⟩
set_option maxRecDepth 100000 in
theorem zlR (zs:List (Int × Int)) (hn:zs.length≤1000000) (a:Option Addr) (c:Nat) (W:World) (hr:RowC W W.heap.size a (zdO zs)) :
  Calls Tryz.prog 129 #[.slice a zs.length c] W fun e w' => ∃ v,e=.returned v∧w'.ownsRow W.heap.size 115 2 v zs.length (zdO zs)∧Below W.heap.size W w':=by
 obtain ⟨i,hi⟩:∃ i,Tryz.prog.info? 115=some i∧i.zero=some (.agg #[.int .i32 0,.int .i64 0])∧i.size=2∧i.bytes=16:=⟨_,rfl,by kernel_rfl,by kernel_rfl,by kernel_rfl⟩
 have HI:=kz hi
 have HR:=kz hr
 clear hi hr
 go_enter Tryz.func129,Tryz.ntmps129
 go_wp2_with (at_builtin;refine zfW (by rfl) _ _ 24 (by rfl) W.heap.size 115 i _ 2 16 Tryz.underlying24 (oz HI) rfl (by decide) (by decide) (by rfl) a c zs.length (zdO zs) (zgx zs) (oz HR) (znL zs) (by rfl) hn (Nat.le_refl _) ?_;intro v' w' hown hg)
 go_ret
 exact ⟨_,rfl,hown,⟨hg.os,hg.tape,hg.output,hg.size,fun k hk =>hg.block k hk (by simp)⟩⟩
set_option maxRecDepth 100000 in
theorem zlQ (zs:List (Int × Int × Int)) (hn:zs.length≤1000000) (a:Option Addr) (c:Nat) (W:World) (hr:RowC W W.heap.size a (zdb zs)) :
  Calls Tryz.prog 130 #[.slice a zs.length c] W fun e w' => ∃ v,e=.returned v∧w'.ownsRow W.heap.size 117 3 v zs.length (zdb zs)∧Below W.heap.size W w':=by
 obtain ⟨i,hi⟩:∃ i,Tryz.prog.info? 117=some i∧i.zero=some (.agg #[.int .i32 0,.int .i32 0,.int .i32 0])∧i.size=3∧i.bytes=12:=⟨_,rfl,by kernel_rfl,by kernel_rfl,by kernel_rfl⟩
 have HI:=kz hi
 have HR:=kz hr
 clear hi hr
 go_enter Tryz.func130,Tryz.ntmps130
 go_wp2_with (at_builtin;refine zfW (by rfl) _ _ 25 (by rfl) W.heap.size 117 i _ 3 12 Tryz.underlying25 (oz HI) rfl (by decide) (by decide) (by rfl) a c zs.length (zdb zs) (zeY zs) (oz HR) (znK zs) (by rfl) hn (Nat.le_refl _) ?_;intro v' w' hown hg)
 go_ret
 exact ⟨_,rfl,hown,⟨hg.os,hg.tape,hg.output,hg.size,fun k hk =>hg.block k hk (by simp)⟩⟩
set_option maxRecDepth 100000 in
theorem zny (zs:List (Int × ByteArray)) (hn:zs.length≤1000000) (a:Option Addr) (c:Nat) (W:World) (hr:RowC W W.heap.size a (zbo zs)) :
  Calls Tryz.prog 179 #[.slice a zs.length c] W fun e w' => ∃ v,e=.returned v∧w'.ownsRow W.heap.size 119 2 v zs.length (zbo zs)∧Below W.heap.size W w':=by
 obtain ⟨i,hi⟩:∃ i,Tryz.prog.info? 119=some i∧i.zero=some (.agg #[.int .i32 0,.string ByteArray.empty])∧i.size=2∧i.bytes=24:=⟨_,rfl,by kernel_rfl,by kernel_rfl,by kernel_rfl⟩
 have HI:=kz hi
 have HR:=kz hr
 clear hi hr
 go_enter Tryz.func179,Tryz.ntmps179
 go_wp2_with (at_builtin;refine zfW (by rfl) _ _ 26 (by rfl) W.heap.size 119 i _ 2 24 Tryz.underlying26 (oz HI) rfl (by decide) (by decide) (by rfl) a c zs.length (zbo zs) (zeZ zs) (oz HR) (znN zs) (by rfl) hn (Nat.le_refl _) ?_;intro v' w' hown hg)
 go_ret
 exact ⟨_,rfl,hown,⟨hg.os,hg.tape,hg.output,hg.size,fun k hk =>hg.block k hk (by simp)⟩⟩
set_option maxRecDepth 100000 in
theorem zjw (zs:List (ByteArray × List (Int × Int))) (us:List Value) (hus:us.length=zs.length) (hsl:∀ (j:Nat) (u:Value),us[j]?=some u→∃ p n d,u=Value.slice p n d) (hn:zs.length≤1000000) (a:Option Addr) (c:Nat) (W:World) (hr:RowC W W.heap.size a (zbB zs us)) :
  Calls Tryz.prog 127 #[.slice a zs.length c] W fun e w' => ∃ v,e=.returned v∧w'.ownsRow W.heap.size 109 2 v zs.length (zbB zs us)∧Below W.heap.size W w':=by
 obtain ⟨i,hi⟩:∃ i,Tryz.prog.info? 109=some i∧i.zero=some (.agg #[.string ByteArray.empty,.slice none 0 0])∧i.size=2∧i.bytes=40:=⟨_,rfl,by kernel_rfl,by kernel_rfl,by kernel_rfl⟩
 have HI:=kz hi
 have HR:=kz hr
 have H1:=kz (znG zs us (fun u hu =>by
  obtain ⟨j,hj⟩:=List.mem_iff_getElem?.1 hu
  obtain ⟨p,n,d,rfl⟩:=hsl j u hj
  rfl))
 clear hi hr
 go_enter Tryz.func127,Tryz.ntmps127
 go_wp2_with (at_builtin;refine zfW (by rfl) _ _ 22 (by rfl) W.heap.size 109 i _ 2 40 Tryz.underlying22 (oz HI) rfl (by decide) (by decide) (by rfl) a c zs.length (zbB zs us) (zeW zs us hus) (oz HR) (oz H1) (by rfl) hn (Nat.le_refl _) ?_;intro v' w' hown hg)
 go_ret
 exact ⟨_,rfl,hown,⟨hg.os,hg.tape,hg.output,hg.size,fun k hk =>hg.block k hk (by simp)⟩⟩
theorem zk1 {w:World} {lo E sz n:Nat} {v:Value} {xs:List Value} (h:w.ownsRow lo E sz v n xs) (hn:0 < n):∃ g cap,v=.slice (some ⟨g,0,none⟩) n cap∧lo≤g∧g < w.heap.size:=by
 rcases h.2 with ⟨rfl,h0⟩ | ⟨g,cap,cur,rfl,h1,h2,_⟩
 ·omega
 ·exact ⟨g,cap,rfl,h1,(Array.getElem?_eq_some_iff.1 h2).1⟩
theorem zhh {w:World} {lo E sz n C g:Nat} {xs:List Value} (h:w.ownsRow lo E sz (.slice (some ⟨g,0,none⟩) n C) n xs) (j:Nat):w.frozen? ⟨g,j,none⟩=false:=by
 rcases h.2 with ⟨e,_⟩ | ⟨g',cap',cur,e,hb,hg,hc,hm,hcs,hx⟩
 ·cases e
 ·injection e with e1 e2 e3
  injection e1 with e1
  injection e1 with e1
  subst e1
  exact (show Blk w g cur E from hg).frozen _
theorem zm3 {w:World} {lo E sz n C g:Nat} {xs:List Value} (h:w.ownsRow lo E sz (.slice (some ⟨g,0,none⟩) n C) n xs) (j:Nat) (u:Value) (hj:xs[j]?=some u):w.cell? ⟨g,j,none⟩=some u:=by
 rcases h.2 with ⟨e,_⟩ | ⟨g',cap',cur,e,hb,hg,hc,hm,hcs,hx⟩
 ·cases e
 ·injection e with e1 e2 e3
  injection e1 with e1
  injection e1 with e1
  subst e1
  have b:Blk w g cur E:=hg
  rw [b.cell j]
  rw [← hx] at hj
  have hlt:j < n*sz:=by
   have h5:=(List.getElem?_eq_some_iff.1 hj).1
   rw [List.length_take] at h5
   omega
  rw [List.getElem?_take_of_lt hlt,Array.getElem?_toList] at hj
  exact hj
theorem zfL {w:World} {lo E sz n g cap:Nat} {xs:List Value} (h:w.ownsRow lo E sz (.slice (some ⟨g,0,none⟩) n cap) n xs):∀ (j:Nat) (u:Value),xs[j]?=some u→w.cell? ⟨g,j,none⟩=some u:=fun j u hu =>zm3 h j u hu
theorem zpe {w:World} {lo E sz n g cap j:Nat} {u:Value} {xs:List Value} (h:w.ownsRow lo E sz (.slice (some ⟨g,0,none⟩) n cap) n xs) (hu:xs[j]?=some u):(w.setCell ⟨g,j,none⟩ u).ownsRow lo E sz (.slice (some ⟨g,0,none⟩) n cap) n xs:=by
 have hj:=(List.getElem?_eq_some_iff.1 hu).1
 have hs:xs.set j u=xs:=by
  apply List.ext_getElem?
  intro i
  rw [List.getElem?_set]
  by_cases e:j=i
  ·subst e;rw [if_pos rfl,if_pos hj,hu]
  ·rw [if_neg e]
 have:=zm2 h j (by rw [← h.1];exact hj) u
 rwa [hs] at this
set_option maxRecDepth 100000 in
set_option maxHeartbeats 2000000 in
theorem zhi (zs:List (Int × ByteArray)) (hn:zs.length≤1000000) (hz:∀ x ∈ zs,x.2.size≤1048576) (a:Option Addr) (c:Nat) (W:World) (hr:RowC W W.heap.size a (zbo zs)) :
  Calls Tryz.prog 131 #[.slice a zs.length c] W fun e w' => ∃ v,e=.returned v∧w'.ownsRow W.heap.size 119 2 v zs.length (zbo zs)∧Below W.heap.size W w':=by
 have HC:=kz (zny zs hn a c W hr)
 clear hr
 go_enter Tryz.func131,Tryz.ntmps131
 go_wp2_with fail
 refine (oz HC).mono ?_
 rintro e w1 ⟨v,rfl,hown,hb⟩
 have H1:=kz (And.intro hown hb)
 clear hown hb HC
 rcases Nat.eq_zero_or_pos zs.length with h0 | hp
 ·have hv:v=.slice none 0 0∨∃ g cap,v=.slice (some ⟨g,0,none⟩) zs.length cap:=by
   rcases (oz H1).1.2 with ⟨rfl,_⟩ | ⟨g,cap,cur,rfl,_⟩
   ·exact .inl rfl
   ·exact .inr ⟨g,cap,rfl⟩
  obtain ⟨p,cap,rfl⟩:∃ p cap,v=.slice p 0 cap:=by
   rcases hv with rfl | ⟨g,cap,rfl⟩
   ·exact ⟨none,0,rfl⟩
   ·exact ⟨_,cap,by rw [h0]⟩
  clear hv
  go_wp2_with fail
  refine wp_loop_rounds 1 ?_
  rw [rounds_succ]
  go_wp2_with fail
  go_ret
  exact ⟨_,rfl,(oz H1).1,(oz H1).2⟩
 ·obtain ⟨g,cap,rfl,hlo,hg⟩:=zk1 (oz H1).1 hp
  go_wp2_with fail
  go_loopw [3,4,9] (fun _ _ s9 wr => ∃ k:Nat,k≤zs.length∧s9=.int .i64 k∧Hz (wr.ownsRow W.heap.size 119 2 (.slice (some ⟨g,0,none⟩) zs.length cap) zs.length (zbo zs)∧Below W.heap.size W wr)) (fun _ _ s9 _ =>zs.length - (intOf s9).toNat)
  case atStart =>exact ⟨0,Nat.zero_le _,rfl,H1⟩
  case round =>
   obtain ⟨k,hk,rfl,HS⟩:=hrel
   clear H1
   by_cases hkn:k < zs.length
   ·obtain ⟨x,hx⟩:∃ x,zs[k]?=some x:=⟨_,List.getElem?_eq_getElem hkn⟩
    have hc:=zfL (oz HS).1
    have e0:=(zet zs k x hx).1
    have e1:=(zet zs k x hx).2
    have c0:wr.cell? ⟨g,k*2,none⟩=some (.int .i32 x.1):=hc _ _ e0
    have c1:wr.cell? ⟨g,k*2+1,none⟩=some (.string x.2):=hc _ _ e1
    have hk1:(k:Int) < (zs.length:Int):=by omega
    have hk2:((k:Nat):Int).toNat=k:=by omega
    have hB:Below wr.heap.size wr (wr.alloc (.cells #[.int .i32 x.1,.string x.2] 119)):=(Below.refl _ wr).alloc (Nat.le_refl _) _
    have HCL:=kz (zic x.2 (wr.alloc (.cells #[.int .i32 x.1,.string x.2] 119)) (hz x (List.mem_of_getElem? hx)))
    have HX:=kz (And.intro e1 hB)
    obtain ⟨x1,x2⟩:=x
    dsimp only at c0 c1 HCL HX
    clear hx hc e0 e1 hB
    go_wp2_with fail
    refine (oz HCL).mono ?_
    rintro e w3 ⟨rfl,hb3⟩
    have hb4:=(oz HX).2.trans (hb3.mono (oz HX).2.size)
    have HO:=kz (zal (oz HS).1 hb4)
    have HB4:=kz ((oz HS).2.trans (hb4.mono (oz HS).2.size))
    have hc3:=zfL (oz HO)
    have c3:w3.cell? ⟨g,k*2+1,none⟩=some (.string x2):=hc3 _ _ (oz HX).1
    have f3:w3.frozen? ⟨g,k*2+1,none⟩=false:=zhh (oz HO) _
    have HN:=kz (And.intro (zpe (oz HO) (oz HX).1) ((oz HB4).setCell (p:=⟨g,k*2+1,none⟩) hlo (.string x2)))
    clear hb3 hb4 hc3 HCL c0 c1
    go_wp2_with fail
    exact ⟨⟨k+1,by omega,by go_num,HN⟩,by simp [intOf];omega⟩
   ·have hk1:¬ (k:Int) < (zs.length:Int):=by omega
    go_wp2_with fail
    go_ret
    exact ⟨_,rfl,(oz HS).1,(oz HS).2⟩
end Go.Proofs.YtmemedpoaocdkaaGreat
