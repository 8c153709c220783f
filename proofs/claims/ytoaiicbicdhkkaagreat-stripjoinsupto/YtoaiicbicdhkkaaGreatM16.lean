/- Texts of this claim, one behind the other. -/
import Derived.Test.YtoaiicbicdhkkaaGreatM15
import Derived.Test.YtoaiicbicdhkkaaGreatM5
import Derived.StringKeys
import Derived.Deep.RegionHeld3
/- Which tables are right: rows that are there twice: what refuses them is made. -/
namespace Go.Proofs.YtoaiicbicdhkkaaGreat
open Go.RowKit Go.Shelf Go.Maps
set_option linter.unusedVariables false
structure zf2 (w0 w:World) (G kf:Nat) (ft mt kt:TypeId) (v:Value) (KB SB M:Nat):Prop where
 v:v=.func (.func G) #[] #[.pointer (some ⟨KB,0,none⟩),.pointer (some ⟨SB,0,none⟩)]
 ag:AgAt w KB SB M kf 0 ft mt kt (fun _ =>False)
 kb:w0.heap.size≤KB
 sb:w0.heap.size≤SB
 mb:w0.heap.size≤M
set_option maxRecDepth 100000 in
theorem mk_Mark (w:World):Calls Tryz.prog 105 #[.func (.func 106) #[] #[]] w fun e w' =>(∃ v KB SB M,e=.returned v∧zf2 w w' 159 106 157 182 21 v KB SB M)∧Below w.heap.size w w':=by
 have hmf:∀ (fn:Fn) (first cap:Array Value) (w:World),(Instr.makeFunc fn first cap).run Tryz.prog w=.ok (.func fn first cap) w:=fun _ _ _ _ =>rfl
 have hmm:=@run_makeMap Tryz.prog
 have h1:=Blk.new w #[.func (.func 106) #[] #[]] 157
 have h2:=zdD (w.alloc (.cells #[.func (.func 106) #[] #[]] 157)) 21
 rw [World.size_alloc] at h2
 have h3:=Blk.new ((w.alloc (.cells #[.func (.func 106) #[] #[]] 157)).alloc (.map #[] 0)) #[.map (some (w.heap.size+1))] 182
 rw [World.size_alloc,World.size_alloc] at h3
 have H:Hz (AgAt (((w.alloc (.cells #[.func (.func 106) #[] #[]] 157)).alloc (.map #[] 0)).alloc (.cells #[.map (some (w.heap.size+1))] 182)) w.heap.size (w.heap.size+1+1) (w.heap.size+1) 106 0 157 182 21 (fun _ =>False)):=kz ⟨(h1.alloc _).alloc _,h3,h2.below ((Below.refl _ _).alloc (Nat.le_refl _) _),by omega,by omega⟩
 have HB:Hz (Below w.heap.size w (((w.alloc (.cells #[.func (.func 106) #[] #[]] 157)).alloc (.map #[] 0)).alloc (.cells #[.map (some (w.heap.size+1))] 182))):=kz ((((Below.refl _ w).alloc (Nat.le_refl _) _).alloc (by simp) _).alloc (by simp;omega) _)
 clear h1 h2 h3
 go_enter Tryz.func105,Tryz.ntmps105
 go_wp2
 go_ret
 exact ⟨⟨_,w.heap.size,w.heap.size+1+1,w.heap.size+1,rfl,rfl,oz H,by omega,by omega,by omega⟩,oz HB⟩
set_option maxRecDepth 100000 in
theorem mk_PairW (w:World):Calls Tryz.prog 98 #[.func (.func 99) #[] #[]] w fun e w' =>(∃ v KB SB M,e=.returned v∧zf2 w w' 156 99 150 182 21 v KB SB M)∧Below w.heap.size w w':=by
 have hmf:∀ (fn:Fn) (first cap:Array Value) (w:World),(Instr.makeFunc fn first cap).run Tryz.prog w=.ok (.func fn first cap) w:=fun _ _ _ _ =>rfl
 have hmm:=@run_makeMap Tryz.prog
 have h1:=Blk.new w #[.func (.func 99) #[] #[]] 150
 have h2:=zdD (w.alloc (.cells #[.func (.func 99) #[] #[]] 150)) 21
 rw [World.size_alloc] at h2
 have h3:=Blk.new ((w.alloc (.cells #[.func (.func 99) #[] #[]] 150)).alloc (.map #[] 0)) #[.map (some (w.heap.size+1))] 182
 rw [World.size_alloc,World.size_alloc] at h3
 have H:Hz (AgAt (((w.alloc (.cells #[.func (.func 99) #[] #[]] 150)).alloc (.map #[] 0)).alloc (.cells #[.map (some (w.heap.size+1))] 182)) w.heap.size (w.heap.size+1+1) (w.heap.size+1) 99 0 150 182 21 (fun _ =>False)):=kz ⟨(h1.alloc _).alloc _,h3,h2.below ((Below.refl _ _).alloc (Nat.le_refl _) _),by omega,by omega⟩
 have HB:Hz (Below w.heap.size w (((w.alloc (.cells #[.func (.func 99) #[] #[]] 150)).alloc (.map #[] 0)).alloc (.cells #[.map (some (w.heap.size+1))] 182))):=kz ((((Below.refl _ w).alloc (Nat.le_refl _) _).alloc (by simp) _).alloc (by simp;omega) _)
 clear h1 h2 h3
 go_enter Tryz.func98,Tryz.ntmps98
 go_wp2
 go_ret
 exact ⟨⟨_,w.heap.size,w.heap.size+1+1,w.heap.size+1,rfl,rfl,oz H,by omega,by omega,by omega⟩,oz HB⟩
set_option maxRecDepth 100000 in
theorem mk_PairP (w:World):Calls Tryz.prog 100 #[.func (.func 101) #[] #[]] w fun e w' =>(∃ v KB SB M,e=.returned v∧zf2 w w' 157 101 152 185 120 v KB SB M)∧Below w.heap.size w w':=by
 have hmf:∀ (fn:Fn) (first cap:Array Value) (w:World),(Instr.makeFunc fn first cap).run Tryz.prog w=.ok (.func fn first cap) w:=fun _ _ _ _ =>rfl
 have hmm:=@run_makeMap Tryz.prog
 have h1:=Blk.new w #[.func (.func 101) #[] #[]] 152
 have h2:=zdD (w.alloc (.cells #[.func (.func 101) #[] #[]] 152)) 120
 rw [World.size_alloc] at h2
 have h3:=Blk.new ((w.alloc (.cells #[.func (.func 101) #[] #[]] 152)).alloc (.map #[] 0)) #[.map (some (w.heap.size+1))] 185
 rw [World.size_alloc,World.size_alloc] at h3
 have H:Hz (AgAt (((w.alloc (.cells #[.func (.func 101) #[] #[]] 152)).alloc (.map #[] 0)).alloc (.cells #[.map (some (w.heap.size+1))] 185)) w.heap.size (w.heap.size+1+1) (w.heap.size+1) 101 0 152 185 120 (fun _ =>False)):=kz ⟨(h1.alloc _).alloc _,h3,h2.below ((Below.refl _ _).alloc (Nat.le_refl _) _),by omega,by omega⟩
 have HB:Hz (Below w.heap.size w (((w.alloc (.cells #[.func (.func 101) #[] #[]] 152)).alloc (.map #[] 0)).alloc (.cells #[.map (some (w.heap.size+1))] 185))):=kz ((((Below.refl _ w).alloc (Nat.le_refl _) _).alloc (by simp) _).alloc (by simp;omega) _)
 clear h1 h2 h3
 go_enter Tryz.func100,Tryz.ntmps100
 go_wp2
 go_ret
 exact ⟨⟨_,w.heap.size,w.heap.size+1+1,w.heap.size+1,rfl,rfl,oz H,by omega,by omega,by omega⟩,oz HB⟩
set_option maxRecDepth 100000 in
theorem mk_Map (w:World):Calls Tryz.prog 109 #[.func (.func 102) #[] #[]] w fun e w' =>(∃ v KB SB M,e=.returned v∧zf2 w w' 160 102 153 182 21 v KB SB M)∧Below w.heap.size w w':=by
 have hmf:∀ (fn:Fn) (first cap:Array Value) (w:World),(Instr.makeFunc fn first cap).run Tryz.prog w=.ok (.func fn first cap) w:=fun _ _ _ _ =>rfl
 have hmm:=@run_makeMap Tryz.prog
 have h1:=Blk.new w #[.func (.func 102) #[] #[]] 153
 have h2:=zdD (w.alloc (.cells #[.func (.func 102) #[] #[]] 153)) 21
 rw [World.size_alloc] at h2
 have h3:=Blk.new ((w.alloc (.cells #[.func (.func 102) #[] #[]] 153)).alloc (.map #[] 0)) #[.map (some (w.heap.size+1))] 182
 rw [World.size_alloc,World.size_alloc] at h3
 have H:Hz (AgAt (((w.alloc (.cells #[.func (.func 102) #[] #[]] 153)).alloc (.map #[] 0)).alloc (.cells #[.map (some (w.heap.size+1))] 182)) w.heap.size (w.heap.size+1+1) (w.heap.size+1) 102 0 153 182 21 (fun _ =>False)):=kz ⟨(h1.alloc _).alloc _,h3,h2.below ((Below.refl _ _).alloc (Nat.le_refl _) _),by omega,by omega⟩
 have HB:Hz (Below w.heap.size w (((w.alloc (.cells #[.func (.func 102) #[] #[]] 153)).alloc (.map #[] 0)).alloc (.cells #[.map (some (w.heap.size+1))] 182))):=kz ((((Below.refl _ w).alloc (Nat.le_refl _) _).alloc (by simp) _).alloc (by simp;omega) _)
 clear h1 h2 h3
 go_enter Tryz.func109,Tryz.ntmps109
 go_wp2
 go_ret
 exact ⟨⟨_,w.heap.size,w.heap.size+1+1,w.heap.size+1,rfl,rfl,oz H,by omega,by omega,by omega⟩,oz HB⟩
set_option maxRecDepth 100000 in
theorem zlb (w:World):Calls Tryz.prog 103 #[.func (.func 104) #[] #[]] w fun e w' =>(∃ v KB SB M,e=.returned v∧zf2 w w' 158 104 155 186 9 v KB SB M)∧Below w.heap.size w w':=by
 have hmf:∀ (fn:Fn) (first cap:Array Value) (w:World),(Instr.makeFunc fn first cap).run Tryz.prog w=.ok (.func fn first cap) w:=fun _ _ _ _ =>rfl
 have hmm:=@run_makeMap Tryz.prog
 have h1:=Blk.new w #[.func (.func 104) #[] #[]] 155
 have h2:=zdD (w.alloc (.cells #[.func (.func 104) #[] #[]] 155)) 9
 rw [World.size_alloc] at h2
 have h3:=Blk.new ((w.alloc (.cells #[.func (.func 104) #[] #[]] 155)).alloc (.map #[] 0)) #[.map (some (w.heap.size+1))] 186
 rw [World.size_alloc,World.size_alloc] at h3
 have H:Hz (AgAt (((w.alloc (.cells #[.func (.func 104) #[] #[]] 155)).alloc (.map #[] 0)).alloc (.cells #[.map (some (w.heap.size+1))] 186)) w.heap.size (w.heap.size+1+1) (w.heap.size+1) 104 0 155 186 9 (fun _ =>False)):=kz ⟨(h1.alloc _).alloc _,h3,h2.below ((Below.refl _ _).alloc (Nat.le_refl _) _),by omega,by omega⟩
 have HB:Hz (Below w.heap.size w (((w.alloc (.cells #[.func (.func 104) #[] #[]] 155)).alloc (.map #[] 0)).alloc (.cells #[.map (some (w.heap.size+1))] 186))):=kz ((((Below.refl _ w).alloc (Nat.le_refl _) _).alloc (by simp) _).alloc (by simp;omega) _)
 clear h1 h2 h3
 go_enter Tryz.func103,Tryz.ntmps103
 go_wp2
 go_ret
 exact ⟨⟨_,w.heap.size,w.heap.size+1+1,w.heap.size+1,rfl,rfl,oz H,by omega,by omega,by omega⟩,oz HB⟩
theorem zhd {r:Int} (h:R32 r):(Lit.int .i32 r).wf=true:=by
 obtain ⟨h1,h2⟩:=h
 simp [Lit.wf,IntKind.min,IntKind.max,IntKind.signed,IntKind.bits]
 omega
def zec {α : Type} (lit : α→Lit) (zs:List α) (i:Nat):Lit→Prop:=fun kl => ∃ y ∈ zs.take i,lit y=kl
theorem zc1 {α : Type} (lit : α→Lit) (zs:List α):zec lit zs 0=fun _ =>False:=by
 funext kl
 simp [zec]
theorem zc2 {α : Type} (lit : α→Lit) (zs:List α) (i:Nat) (x : α) (hx:zs[i]?=some x):zec lit zs (i+1)=fun kl =>kl=lit x∨zec lit zs i kl:=by
 funext kl
 simp only [zec,eq_iff_iff]
 rw [List.take_add_one,hx]
 constructor
 ·rintro ⟨y,hy,rfl⟩
  rcases List.mem_append.1 hy with h | h
  ·exact .inr ⟨y,h,rfl⟩
  ·obtain rfl:y=x:=by simpa using h
   exact .inl rfl
 ·rintro (rfl | ⟨y,hy,rfl⟩)
  ·exact ⟨x,List.mem_append.2 (.inr (by simp)),rfl⟩
  ·exact ⟨y,List.mem_append.2 (.inl hy),rfl⟩
theorem zh4 {α β : Type} [BEq β] [LawfulBEq β] {lit : α→Lit} {key : α→β} {zs:List α} {d : α} {i:Nat} {x : α} {b:Bool} (hx:zs[i]?=some x) (hinj:∀ y ∈ zs,lit y=lit x ↔ key y=key x) (h:b=true ↔ zec lit zs i (lit x)):(if b=true then (14:Int) else 0)=twF zs d key i:=by
 unfold twF
 rw [zch d hx]
 have e:b=(zs.take i).any (fun y =>key y == key x):=by
  rw [Bool.eq_iff_iff,h,List.any_eq_true]
  constructor
  ·rintro ⟨y,hy,hl⟩
   exact ⟨y,hy,by rw [(hinj y (List.mem_of_mem_take hy)).1 hl];simp⟩
  ·rintro ⟨y,hy,hk⟩
   exact ⟨y,hy,(hinj y (List.mem_of_mem_take hy)).2 (by simpa using hk)⟩
 rw [e]
theorem ziI:∀ args w,(callFunc 159 args).run Tryz.prog w=.ok (.enter 159 args) w:=enters_of Tryz.func159 (by kernel_rfl) rfl
theorem zjW:∀ args w,(callFunc 160 args).run Tryz.prog w=.ok (.enter 160 args) w:=enters_of Tryz.func160 (by kernel_rfl) rfl
theorem zg5:∀ args w,(callFunc 158 args).run Tryz.prog w=.ok (.enter 158 args) w:=enters_of Tryz.func158 (by kernel_rfl) rfl
theorem tw_Mark (zs:List (Int × Int)) (hn:zs.length≤1000000) (hd:∀ x ∈ zs,R32 x.1) (a:Option Addr) (c lo:Nat) (W0 W:World) (v:Value) (KB SB M:Nat) (hlo:W0.heap.size≤lo) (hlw:lo≤W.heap.size) (hr:RowC W W0.heap.size a (zc9 zs)) (ha:zf2 W0 W 159 106 157 182 21 v KB SB M) :
  Calls Tryz.prog 92 #[.int .i64 3,.slice a zs.length c,v] W fun e w' =>e=.returned (wrV (zaz 3 zs.length (twF zs ma0 (fun x:Int × Int =>x.1))))∧KeptX (fun b =>b=M) W w':=by
 obtain ⟨rfl,hag,hkb,hsb,hmb⟩:=ha
 refine zdo 3 zs hn a c 159 _ ziI (twF zs ma0 (fun x:Int × Int =>x.1)) (fun b =>b=M) (fun i w =>AgAt w KB SB M 106 i 157 182 21 (zec (fun x:Int × Int =>Lit.int .i32 x.1) zs i)) W0.heap.size W (by omega) (fun b hb =>by subst hb;exact ⟨hmb,hag.se.lt⟩) hr (by rw [zc1];exact hag) (fun i w w' h hb =>h.below hb) (fun i x w hx hk hJ =>?_)
 have hi:i < zs.length:=(List.getElem?_eq_some_iff.1 hx).1
 have hmem:=List.mem_of_getElem? hx
 refine (zkj x.1 x.2 ((fun x:Int × Int =>Lit.int .i32 x.1) x) (keyOf_int_mk Tryz.underlying21 (zhd (hd x hmem))) trivial KB SB M i (by omega) _ w hJ).mono ?_
 rintro e w' ⟨⟨b,rfl,hb⟩,h1,h2⟩
 refine ⟨by rw [zh4 (lit:=(fun x:Int × Int =>Lit.int .i32 x.1)) (key:=(fun x:Int × Int =>x.1)) (d:=ma0) hx (fun y hy =>by simp) hb], ?_,h2⟩
 rw [zc2 (fun x:Int × Int =>Lit.int .i32 x.1) zs i x hx]
 exact h1
theorem tw_Map (list:Int) (zs:List (Int × ByteArray)) (hn:zs.length≤1000000) (hd:∀ x ∈ zs,R32 x.1) (a:Option Addr) (c lo:Nat) (W0 W:World) (v:Value) (KB SB M:Nat) (hlo:W0.heap.size≤lo) (hlw:lo≤W.heap.size) (hr:RowC W W0.heap.size a (zbf zs)) (ha:zf2 W0 W 160 102 153 182 21 v KB SB M) :
  Calls Tryz.prog 96 #[.int .i64 list,.slice a zs.length c,v] W fun e w' =>e=.returned (wrV (zaz list zs.length (twF zs mp0 (fun x:Int × ByteArray =>x.1))))∧KeptX (fun b =>b=M) W w':=by
 obtain ⟨rfl,hag,hkb,hsb,hmb⟩:=ha
 refine zdM list zs hn a c 160 _ zjW (twF zs mp0 (fun x:Int × ByteArray =>x.1)) (fun b =>b=M) (fun i w =>AgAt w KB SB M 102 i 153 182 21 (zec (fun x:Int × ByteArray =>Lit.int .i32 x.1) zs i)) W0.heap.size W (by omega) (fun b hb =>by subst hb;exact ⟨hmb,hag.se.lt⟩) hr (by rw [zc1];exact hag) (fun i w w' h hb =>h.below hb) (fun i x w hx hk hJ =>?_)
 have hi:i < zs.length:=(List.getElem?_eq_some_iff.1 hx).1
 have hmem:=List.mem_of_getElem? hx
 refine (again_Map x.1 x.2 ((fun x:Int × ByteArray =>Lit.int .i32 x.1) x) (keyOf_int_mk Tryz.underlying21 (zhd (hd x hmem))) trivial KB SB M i (by omega) _ w hJ).mono ?_
 rintro e w' ⟨⟨b,rfl,hb⟩,h1,h2⟩
 refine ⟨by rw [zh4 (lit:=(fun x:Int × ByteArray =>Lit.int .i32 x.1)) (key:=(fun x:Int × ByteArray =>x.1)) (d:=mp0) hx (fun y hy =>by simp) hb], ?_,h2⟩
 rw [zc2 (fun x:Int × ByteArray =>Lit.int .i32 x.1) zs i x hx]
 exact h1
theorem zkz (zs:List (ByteArray × List (Int × Int))) (us:List Value) (hus:us.length=zs.length) (hn:zs.length≤1000000) (hd:∀ x ∈ zs,x.1.size≤maxLen) (a:Option Addr) (c lo:Nat) (W0 W:World) (v:Value) (KB SB M:Nat) (hlo:W0.heap.size≤lo) (hlw:lo≤W.heap.size) (hr:RowC W W0.heap.size a (zbz zs us)) (ha:zf2 W0 W 158 104 155 186 9 v KB SB M) (hs:ScR W zs us) :
  Calls Tryz.prog 87 #[.int .i64 1,.slice a zs.length c,v] W fun e w' =>e=.returned (wrV (zaz 1 zs.length (twF zs sc0 (fun x:ByteArray × List (Int × Int) =>x.1.data.toList))))∧KeptX (fun b =>b=M) W w':=by
 obtain ⟨rfl,hag,hkb,hsb,hmb⟩:=ha
 refine zcB 1 zs us hus (hs.sl hus) hn a c 158 _ zg5 (twF zs sc0 (fun x:ByteArray × List (Int × Int) =>x.1.data.toList)) (fun b =>b=M) (fun i w =>AgAt w KB SB M 104 i 155 186 9 (zec (fun x:ByteArray × List (Int × Int) =>Lit.string x.1.data.toList) zs i)) W0.heap.size W (by omega) (fun b hb =>by subst hb;exact ⟨hmb,hag.se.lt⟩) hr (by rw [zc1];exact hag) (fun i w w' h hb =>h.below hb) (fun i x u w hx hu hk hJ =>?_)
 have hi:i < zs.length:=(List.getElem?_eq_some_iff.1 hx).1
 have hmem:=List.mem_of_getElem? hx
 obtain ⟨pb,pd,rfl,_⟩:=hs i x u hx hu
 refine (zhT x.1 pb _ pd ((fun x:ByteArray × List (Int × Int) =>Lit.string x.1.data.toList) x) (Go.WideMaps.keyOf_string_mk Tryz.underlying9 (hd x hmem)) trivial KB SB M i (by omega) _ w hJ).mono ?_
 rintro e w' ⟨⟨b,rfl,hb⟩,h1,h2⟩
 refine ⟨by rw [zh4 (lit:=(fun x:ByteArray × List (Int × Int) =>Lit.string x.1.data.toList)) (key:=(fun x:ByteArray × List (Int × Int) =>x.1.data.toList)) (d:=sc0) hx (fun y hy =>by simp) hb], ?_,h2⟩
 rw [zc2 (fun x:ByteArray × List (Int × Int) =>Lit.string x.1.data.toList) zs i x hx]
 exact h1
theorem zbQ {M:Nat} {w w':World} (h:KeptX (fun b =>b=M) w w'):w.grownBy w' (some M):=⟨h.os,h.tape,h.output,h.size,fun k hk hne =>h.block k hk (fun e =>hne (by rw [e]))⟩
theorem AgAt.kept {w w':World} {KB SB M kf n N:Nat} {ft mt kt:TypeId} {S:Lit→Prop} (h:AgAt w KB SB M kf n ft mt kt S) (hg:w.grownBy w' (some N)) (h1:KB≠N) (h2:SB≠N) (h3:M≠N):AgAt w' KB SB M kf n ft mt kt S :=
 ⟨h.kb.kept hg (fun e =>h1 (Option.some.inj e)),h.sb.kept hg (fun e =>h2 (Option.some.inj e)),h.se.kept hg (fun e =>h3 (Option.some.inj e)),h.ks,h.ss⟩
theorem zfe:∃ m,Tryz.prog.types.size=m+1:=⟨Tryz.prog.types.size - 1,by kernel_rfl⟩
theorem zgV {a b c d:Int} (ha:R32 a) (hb:R32 b) (hc:R32 c) (hd:R32 d) (h:keyBytes [Lit.int .i32 a,Lit.int .i32 b]=keyBytes [Lit.int .i32 c,Lit.int .i32 d]):a=c∧b=d:=by
 have k1:=WideMaps.keyOf_pair arrK Tryz.underlying21 zfe (zhd ha) (zhd hb)
 have k2:=WideMaps.keyOf_pair arrK Tryz.underlying21 zfe (zhd hc) (zhd hd)
 rw [← h] at k2
 have:=arr_keyed.inj k1 k2
 simpa using this
structure PrS (w:World) (WB PB KB1 SB1 M1 KB2 SB2 M2:Nat) (zs:List (Int × Int × Int)) (i j:Nat):Prop where
 wb:Blk w WB #[.func (.func 156) #[] #[.pointer (some ⟨KB1,0,none⟩),.pointer (some ⟨SB1,0,none⟩)]] 146
 pb:Blk w PB #[.func (.func 157) #[] #[.pointer (some ⟨KB2,0,none⟩),.pointer (some ⟨SB2,0,none⟩)]] 146
 a1:AgAt w KB1 SB1 M1 99 i 150 182 21 (zec (fun x:Int × Int × Int =>Lit.int .i32 x.1) zs i)
 a2:AgAt w KB2 SB2 M2 101 j 152 185 120 (zec (fun x:Int × Int × Int =>Lit.string (keyBytes [.int .i32 x.2.1,.int .i32 x.2.2])) zs j)
 ne:WB≠M1∧WB≠M2∧PB≠M1∧PB≠M2∧KB1≠M2∧SB1≠M2∧KB2≠M1∧SB2≠M1∧M1≠M2
theorem PrS.below {w w':World} {WB PB KB1 SB1 M1 KB2 SB2 M2:Nat} {zs:List (Int × Int × Int)} {i j:Nat} (h:PrS w WB PB KB1 SB1 M1 KB2 SB2 M2 zs i j) (hb:Below w.heap.size w w'):PrS w' WB PB KB1 SB1 M1 KB2 SB2 M2 zs i j:=⟨h.wb.below hb h.wb.lt,h.pb.below hb h.pb.lt,h.a1.below hb,h.a2.below hb,h.ne⟩
theorem orE_tw (b1 b2:Bool):orE [if b1=true then 14 else 0,if b2=true then 14 else 0]=if (b1 || b2)=true then 14 else 0:=by
 cases b1 <;> cases b2 <;> rfl
theorem twP_of {zs:List (Int × Int × Int)} {i:Nat} {x:Int × Int × Int} {b1 b2:Bool} (hx:zs[i]?=some x) (hd:∀ x ∈ zs,R32 x.1∧R32 x.2.1∧R32 x.2.2) (h1:b1=true ↔ zec (fun x:Int × Int × Int =>Lit.int .i32 x.1) zs i ((fun x:Int × Int × Int =>Lit.int .i32 x.1) x)) (h2:b2=true ↔ zec (fun x:Int × Int × Int =>Lit.string (keyBytes [.int .i32 x.2.1,.int .i32 x.2.2])) zs i ((fun x:Int × Int × Int =>Lit.string (keyBytes [.int .i32 x.2.1,.int .i32 x.2.2])) x)):(if (b1 || b2)=true then (14:Int) else 0)=twP zs i:=by
 unfold twP
 rw [zch pr0 hx]
 have hm:=hd x (List.mem_of_getElem? hx)
 have e:(b1 || b2)=(zs.take i).any (fun y =>decide (y.1=x.1∨(y.2.1=x.2.1∧y.2.2=x.2.2))):=by
  rw [Bool.eq_iff_iff,Bool.or_eq_true,h1,h2,List.any_eq_true]
  constructor
  ·rintro (⟨y,hy,hl⟩ | ⟨y,hy,hl⟩)
   ·exact ⟨y,hy,by simp at hl;simp [hl]⟩
   ·have hym:=hd y (List.mem_of_mem_take hy)
    have hl2:keyBytes [.int .i32 y.2.1,.int .i32 y.2.2]=keyBytes [.int .i32 x.2.1,.int .i32 x.2.2]:=by injection hl
    have:=zgV hym.2.1 hym.2.2 hm.2.1 hm.2.2 hl2
    exact ⟨y,hy,by simp [this.1,this.2]⟩
  ·rintro ⟨y,hy,hk⟩
   rcases of_decide_eq_true hk with h | ⟨ha,hb⟩
   ·exact .inl ⟨y,hy,by show Lit.int .i32 y.1=Lit.int .i32 x.1;rw [h]⟩
   ·exact .inr ⟨y,hy,by show Lit.string _=Lit.string _;rw [ha,hb]⟩
 rw [e]
set_option maxRecDepth 100000 in
set_option maxHeartbeats 4000000 in
theorem zjm (x1 x2 x3:Int) (zs:List (Int × Int × Int)) (i:Nat) (hi:i≤1000000) (hx:zs[i]?=some (x1,x2,x3)) (hd:∀ x ∈ zs,R32 x.1∧R32 x.2.1∧R32 x.2.2) (WB PB KB1 SB1 M1 KB2 SB2 M2:Nat) (W:World) (hP:PrS W WB PB KB1 SB1 M1 KB2 SB2 M2 zs i i) :
  Calls Tryz.prog 107 #[.agg #[.int .i32 x1,.int .i32 x2,.int .i32 x3],.pointer (some ⟨WB,0,none⟩),.pointer (some ⟨PB,0,none⟩)] W fun e w' =>e=.returned (.int .i64 (twP zs i))∧PrS w' WB PB KB1 SB1 M1 KB2 SB2 M2 zs (i+1) (i+1)∧KeptX (fun b =>b=M1∨b=M2) W w':=by
 have hB0:Below W.heap.size W (W.alloc (.cells #[.int .i32 x1,.int .i32 x2,.int .i32 x3] 83)).drew:=((Below.refl _ W).alloc (Nat.le_refl _) _).trans ⟨rfl,rfl,rfl,Nat.le_refl _,fun _ _ =>rfl⟩
 have bX:Blk (W.alloc (.cells #[.int .i32 x1,.int .i32 x2,.int .i32 x3] 83)).drew W.heap.size #[.int .i32 x1,.int .i32 x2,.int .i32 x3] 83:=Blk.new W #[.int .i32 x1,.int .i32 x2,.int .i32 x3] 83
 have H0:=kz (And.intro (hP.below hB0) (And.intro bX hB0))
 have hm:=hd _ (List.mem_of_getElem? hx)
 have HL:=kz (And.intro hm.1 (And.intro hm.2.1 hm.2.2))
 have HT:Hz (∀ b1 b2:Bool,(b1=true ↔ zec (fun x:Int × Int × Int =>Lit.int .i32 x.1) zs i (Lit.int .i32 x1))→(b2=true ↔ zec (fun x:Int × Int × Int =>Lit.string (keyBytes [.int .i32 x.2.1,.int .i32 x.2.2])) zs i (Lit.string (keyBytes [.int .i32 x2,.int .i32 x3])))→orE [if b1=true then 14 else 0,if b2=true then 14 else 0]=twP zs i):=kz (fun b1 b2 h1 h2 =>by rw [orE_tw];exact twP_of hx hd h1 h2)
 have HS1:=kz (zc2 (fun x:Int × Int × Int =>Lit.int .i32 x.1) zs i _ hx)
 have HS2:=kz (zc2 (fun x:Int × Int × Int =>Lit.string (keyBytes [.int .i32 x.2.1,.int .i32 x.2.2])) zs i _ hx)
 have HNM:Hz (M1 < W.heap.size∧M2 < W.heap.size):=kz ⟨hP.a1.se.lt,hP.a2.se.lt⟩
 have z0:(W.alloc (.cells #[.int .i32 x1,.int .i32 x2,.int .i32 x3] 83)).drew.cell? ⟨WB,0,none⟩=some (.func (.func 156) #[] #[.pointer (some ⟨KB1,0,none⟩),.pointer (some ⟨SB1,0,none⟩)]):=(oz H0).1.wb.cell 0
 have z1:(W.alloc (.cells #[.int .i32 x1,.int .i32 x2,.int .i32 x3] 83)).drew.cell? ⟨PB,0,none⟩=some (.func (.func 157) #[] #[.pointer (some ⟨KB2,0,none⟩),.pointer (some ⟨SB2,0,none⟩)]):=(oz H0).1.pb.cell 0
 have z2:(W.alloc (.cells #[.int .i32 x1,.int .i32 x2,.int .i32 x3] 83)).drew.cell? ⟨W.heap.size,0,none⟩=some (.int .i32 x1):=(oz H0).2.1.cell 0
 have z3:(W.alloc (.cells #[.int .i32 x1,.int .i32 x2,.int .i32 x3] 83)).drew.cell? ⟨W.heap.size,1,none⟩=some (.int .i32 x2):=(oz H0).2.1.cell 1
 have z4:(W.alloc (.cells #[.int .i32 x1,.int .i32 x2,.int .i32 x3] 83)).drew.cell? ⟨W.heap.size,2,none⟩=some (.int .i32 x3):=(oz H0).2.1.cell 2
 clear hB0 bX hP hx hd hm
 go_enter Tryz.func107,Tryz.ntmps107
 go_wp2_with fail
 generalize W.alloc (.cells #[.int .i32 x1,.int .i32 x2,.int .i32 x3] 83)=w0 at *
 go_region_held3 (fun w' =>w'.cell? ⟨WB,0,none⟩=some (.func (.func 156) #[] #[.pointer (some ⟨KB1,0,none⟩),.pointer (some ⟨SB1,0,none⟩)])∧w'.cell? ⟨PB,0,none⟩=some (.func (.func 157) #[] #[.pointer (some ⟨KB2,0,none⟩),.pointer (some ⟨SB2,0,none⟩)])∧w'.cell? ⟨W.heap.size,0,none⟩=some (.int .i32 x1)∧w'.cell? ⟨W.heap.size,1,none⟩=some (.int .i32 x2)∧w'.cell? ⟨W.heap.size,2,none⟩=some (.int .i32 x3)) (first | with_reducible exact ⟨z0,z1,z2,z3,z4⟩ | with_reducible exact ⟨y0,y1,y2,y3,y4⟩ | with_reducible exact ⟨t0,t1,t2,t3,t4⟩ | with_reducible exact ⟨zaN _ t0,zaN _ t1,zaN _ t2,zaN _ t3,zaN _ t4⟩)
  (first
  | (go_at_call 108;refine (zbd [zz1,zz2] (by simp) _ 0 _ _ (zhX _ _ _ _ _ (by first | rfl | simp))).mono ?_;rintro e w4 ⟨rfl,rfl⟩)
  | (go_at_call 157;refine (ziR x1 x2 x3 (Lit.string (keyBytes [.int .i32 x2,.int .i32 x3])) (WideMaps.keyOf_pair arrK Tryz.underlying21 zfe (zhd (oz HL).2.1) (zhd (oz HL).2.2)) trivial KB2 SB2 M2 i hi _ wa (oz HA).1.a2).mono ?_;rintro e wb ⟨⟨b2,he2,hb2⟩,h1,h2⟩;obtain ⟨zz2,hz2⟩:∃ z:Int,(if b2=true then 14 else 0)=z:=⟨_,rfl⟩;rw [hz2] at he2;subst he2;have HB:=kz (And.intro (show PrS wb WB PB KB1 SB1 M1 KB2 SB2 M2 zs (i+1) (i+1) from ⟨(oz HA).1.wb.kept (zbQ h2) (fun e =>(oz HA).1.ne.2.1 (Option.some.inj e)),(oz HA).1.pb.kept (zbQ h2) (fun e =>(oz HA).1.ne.2.2.2.1 (Option.some.inj e)),(oz HA).1.a1.kept (zbQ h2) (oz HA).1.ne.2.2.2.2.1 (oz HA).1.ne.2.2.2.2.2.1 (oz HA).1.ne.2.2.2.2.2.2.2.2,(by rw [oz HS2];exact h1),(oz HA).1.ne⟩) (And.intro ((oz HA).2.1.kept (zbQ h2) (fun e =>by have:=Option.some.inj e;have:=(oz HNM).2;omega)) (And.intro ((oz HA).2.2.1.trans (h2.mono (fun k q =>.inr q))) (And.intro (oz HA).2.2.2 (And.intro hz2 hb2)))));have t0:wb.cell? ⟨WB,0,none⟩=some (.func (.func 156) #[] #[.pointer (some ⟨KB1,0,none⟩),.pointer (some ⟨SB1,0,none⟩)]):=(oz HB).1.wb.cell 0;have t1:wb.cell? ⟨PB,0,none⟩=some (.func (.func 157) #[] #[.pointer (some ⟨KB2,0,none⟩),.pointer (some ⟨SB2,0,none⟩)]):=(oz HB).1.pb.cell 0;have t2:wb.cell? ⟨W.heap.size,0,none⟩=some (.int .i32 x1):=(oz HB).2.1.cell 0;have t3:wb.cell? ⟨W.heap.size,1,none⟩=some (.int .i32 x2):=(oz HB).2.1.cell 1;have t4:wb.cell? ⟨W.heap.size,2,none⟩=some (.int .i32 x3):=(oz HB).2.1.cell 2;clear h1 h2 hb2 hz2)
  | (go_at_call 156;refine (ziQ x1 x2 x3 (Lit.int .i32 x1) (keyOf_int_mk Tryz.underlying21 (zhd (oz HL).1)) trivial KB1 SB1 M1 i hi _ w0.drew (oz H0).1.a1).mono ?_;rintro e wa ⟨⟨b1,he1,hb1⟩,h1,h2⟩;obtain ⟨zz1,hz1⟩:∃ z:Int,(if b1=true then 14 else 0)=z:=⟨_,rfl⟩;rw [hz1] at he1;subst he1;have HA:=kz (And.intro (show PrS wa WB PB KB1 SB1 M1 KB2 SB2 M2 zs (i+1) i from ⟨(oz H0).1.wb.kept (zbQ h2) (fun e =>(oz H0).1.ne.1 (Option.some.inj e)),(oz H0).1.pb.kept (zbQ h2) (fun e =>(oz H0).1.ne.2.2.1 (Option.some.inj e)),(by rw [oz HS1];exact h1),(oz H0).1.a2.kept (zbQ h2) (oz H0).1.ne.2.2.2.2.2.2.1 (oz H0).1.ne.2.2.2.2.2.2.2.1 (fun e =>(oz H0).1.ne.2.2.2.2.2.2.2.2 e.symm),(oz H0).1.ne⟩) (And.intro ((oz H0).2.1.kept (zbQ h2) (fun e =>by have:=Option.some.inj e;have:=(oz HNM).1;omega)) (And.intro ((zan (oz H0).2.2 (fun b =>b=M1∨b=M2)).trans (h2.mono (fun k q =>.inl q))) (And.intro hz1 hb1))));have y0:wa.cell? ⟨WB,0,none⟩=some (.func (.func 156) #[] #[.pointer (some ⟨KB1,0,none⟩),.pointer (some ⟨SB1,0,none⟩)]):=(oz HA).1.wb.cell 0;have y1:wa.cell? ⟨PB,0,none⟩=some (.func (.func 157) #[] #[.pointer (some ⟨KB2,0,none⟩),.pointer (some ⟨SB2,0,none⟩)]):=(oz HA).1.pb.cell 0;have y2:wa.cell? ⟨W.heap.size,0,none⟩=some (.int .i32 x1):=(oz HA).2.1.cell 0;have y3:wa.cell? ⟨W.heap.size,1,none⟩=some (.int .i32 x2):=(oz HA).2.1.cell 1;have y4:wa.cell? ⟨W.heap.size,2,none⟩=some (.int .i32 x3):=(oz HA).2.1.cell 2;clear h1 h2 hb1 hz1))
 all_goals
  go_wp2_with fail
  go_ret
  have hB:=oz HB
  refine ⟨?_,hB.1.below ((Below.refl _ wb).alloc (Nat.le_refl _) _),hB.2.2.1.trans (zan ((Below.refl _ wb).alloc (Nat.le_refl _) _) _)⟩
  rw [← oz HT b1 b2 hB.2.2.2.1.2 hB.2.2.2.2.2,hB.2.2.2.1.1,hB.2.2.2.2.1]
  rfl
theorem ent_tw6:∀ args w,(callFunc 107 args).run Tryz.prog w=.ok (.enter 107 args) w:=enters_of Tryz.func107 (by kernel_rfl) rfl
theorem tw_Pair (zs:List (Int × Int × Int)) (hn:zs.length≤1000000) (hd:∀ x ∈ zs,R32 x.1∧R32 x.2.1∧R32 x.2.2) (a:Option Addr) (c lo:Nat) (W:World) (WB PB KB1 SB1 M1 KB2 SB2 M2:Nat) (hr:RowC W lo a (zcC zs)) (h:PrS W WB PB KB1 SB1 M1 KB2 SB2 M2 zs 0 0) (hlo:lo≤W.heap.size) (hm:lo≤M1∧lo≤M2) :
  Calls Tryz.prog 94 #[.int .i64 4,.slice a zs.length c,.func (.func 107) #[] #[.pointer (some ⟨WB,0,none⟩),.pointer (some ⟨PB,0,none⟩)]] W fun e w' =>e=.returned (wrV (zaz 4 zs.length (twP zs)))∧KeptX (fun b =>b=M1∨b=M2) W w' :=
 zdn 4 zs hn a c 107 _ ent_tw6 (twP zs) (fun b =>b=M1∨b=M2) (fun i w =>PrS w WB PB KB1 SB1 M1 KB2 SB2 M2 zs i i) lo W hlo (fun b hb =>by
  rcases hb with rfl | rfl
  ·exact ⟨hm.1,h.a1.se.lt⟩
  ·exact ⟨hm.2,h.a2.se.lt⟩) hr h (fun i w w' hJ hb =>hJ.below hb) (fun i x w hx hk hJ =>zjm x.1 x.2.1 x.2.2 zs i (by have:=(List.getElem?_eq_some_iff.1 hx).1;omega) hx hd WB PB KB1 SB1 M1 KB2 SB2 M2 w hJ)
end Go.Proofs.YtoaiicbicdhkkaaGreat
