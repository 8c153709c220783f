/- Texts of this claim, one behind the other. -/
import Derived.Test.YtmemedpoaocdkaaGreatM28
/- A Book of tables: what every table says alike: the sets. -/
namespace Go.Proofs.YtmemedpoaocdkaaGreat
open Go.RowKit Go.Shelf Go.Maps
set_option linter.unusedVariables false
def zoD:List (Int × Int) := [(0,127)]++[(65533,65533)]
def zp6:List (Int × Int) := [(0,64),(91,127),(65533,65533),(65533,65533)]
def zqb:List (Int × Int) := [(0,31),(45,46),(65533,65533)]
def zqo:List (Int × Int) := [(45,46),(48,57)]
def zng:List (Int × Int) := [(45,45),(48,57),(97,122)]
def zqf:List (Int × Int) := [(0,44),(46,47),(58,96),(123,127),(123,127)]
theorem znM {r:Int} (h:zan r=true):zal zoD r=zj8 r:=by
 have:=zaR h
 unfold zal zj8 zoD
 rw [h,Bool.and_true,Bool.eq_iff_iff]
 simp
 omega
theorem zqI {r:Int} (h:zan r=true):zal zp6 r=(zj8 r && decide (r < 65∨90 < r)):=by
 have:=zaR h
 unfold zal zj8 zp6
 rw [h,Bool.and_true,Bool.eq_iff_iff]
 simp
 omega
theorem znF {r:Int} (h:zan r=true):zal zqb r=zjU r:=by
 have:=zaR h
 unfold zal zjU zqb
 rw [h,Bool.and_true,Bool.eq_iff_iff]
 simp
 omega
theorem zqH (s:ByteArray):(zai s).any (zal zqb)=zjS s:=by
 unfold zjS
 rw [Bool.eq_iff_iff,List.any_eq_true,List.any_eq_true]
 constructor
 ·rintro ⟨x,hx,e⟩
  exact ⟨x,hx,by rw [← znF (runes_rune hx)];exact e⟩
 ·rintro ⟨x,hx,e⟩
  exact ⟨x,hx,by rw [znF (runes_rune hx)];exact e⟩
theorem zqr (r:Int):zal zp6 r=(zal zoD r && !zal [(65,90)] r):=by
 unfold zal zp6 zoD
 cases zan r with
 | false =>simp
 | true =>
  rw [Bool.and_true,Bool.and_true,Bool.and_true,Bool.eq_iff_iff]
  simp
  omega
theorem ziL (r:Int):zal zqf r=(zal [(0,127)] r && !zal zng r):=by
 unfold zal zqf zng
 cases zan r with
 | false =>simp
 | true =>
  rw [Bool.and_true,Bool.and_true,Bool.and_true,Bool.eq_iff_iff]
  simp
  omega
theorem zgL {r:Int} (h0:0≤r) (h1:r≤127):zan r=true:=by
 unfold zan
 simp
 omega
theorem zo9 {x:Int × Int} (h1:zan x.1=true) (h:x.1≤x.2):decide (x.1 < 128∨(x.1≤65533∧65533≤x.2))=true ↔ ∃ t,zal zoD t=true∧x.1≤t∧t≤x.2:=by
 have hr:=zaR h1
 rw [decide_eq_true_eq]
 constructor
 ·rintro (c | c)
  ·exact ⟨x.1,by rw [znM h1];simp [zj8,c],Int.le_refl _,h⟩
  ·exact ⟨65533,by decide,c.1,c.2⟩
 ·rintro ⟨t,ht,h2,h3⟩
  have hrt:=((zay zoD t).1 ht).2
  rw [znM hrt] at ht
  simp [zj8] at ht
  omega
theorem zoH (k:Int):zir k=true ↔ k=45∨(48≤k∧k≤57)∨(97≤k∧k≤122):=by
 unfold zir
 rw [decide_eq_true_eq]
theorem zlu {r:Int} (h:zan r=true):zal zng r=zir r:=by
 unfold zal zng
 rw [h,Bool.and_true,Bool.eq_iff_iff,zoH]
 simp
 omega
theorem zo8 {x:Int × Int}:(List.range 128).any (fun k =>decide (x.1≤(k:Int)∧(k:Int)≤x.2) && !zir k)=true ↔ ∃ t,zal zqf t=true∧x.1≤t∧t≤x.2:=by
 rw [List.any_eq_true]
 constructor
 ·rintro ⟨k,hk,e⟩
  rw [Bool.and_eq_true,decide_eq_true_eq] at e
  have hk:=List.mem_range.1 hk
  have hr:zan (k:Int)=true:=zgL (by omega) (by omega)
  refine ⟨k, ?_,e.1.1,e.1.2⟩
  rw [ziL,zlu hr,e.2,Bool.and_true,zay]
  exact ⟨⟨(0,127),by simp,by dsimp only;omega,by dsimp only;omega⟩,hr⟩
 ·rintro ⟨t,ht,h2,h3⟩
  rw [ziL,Bool.and_eq_true] at ht
  obtain ⟨ha,hb⟩:=ht
  obtain ⟨⟨y,hy,h4,h5⟩,hr⟩:=(zay _ _).1 ha
  obtain rfl:y=(0,127):=by simpa using hy
  dsimp only at h4 h5
  refine ⟨t.toNat,List.mem_range.2 (by omega), ?_⟩
  rw [show ((t.toNat:Nat):Int)=t by omega, ← zlu hr,hb,Bool.and_true,decide_eq_true_eq]
  exact ⟨h2,h3⟩
theorem zoW {r:Int} (h:zal zqo r=true):r ∈ comL:=by
 obtain ⟨⟨y,hy,h4,h5⟩,hr⟩:=(zay _ _).1 h
 simp [zqo] at hy
 rcases hy with rfl | rfl
 all_goals
  dsimp only at h4 h5
  simp [comL]
  omega
theorem zqn (l:List (Int × Int)):comL.all (fun r =>zal l r)=true ↔ ∀ r,zal zqo r=true→zal l r=true:=by
 rw [List.all_eq_true]
 constructor
 ·intro h r hr
  exact h r (zoW hr)
 ·intro h r hr
  refine h r ?_
  simp [comL] at hr
  rcases hr with rfl | rfl | rfl | rfl | rfl | rfl | rfl | rfl | rfl | rfl | rfl | rfl
  all_goals decide
theorem znf {r:Int} (h:zal zng r=true):r ∈ labL:=by
 obtain ⟨⟨y,hy,h4,h5⟩,hr⟩:=(zay _ _).1 h
 unfold labL
 rw [List.mem_append]
 simp [zng] at hy
 rcases hy with rfl | rfl | rfl
 ·dsimp only at h4 h5
  refine .inl ?_
  simp
  omega
 ·dsimp only at h4 h5
  refine .inl ?_
  simp
  omega
 ·dsimp only at h4 h5
  refine .inr (List.mem_map.2 ⟨(r - 97).toNat,List.mem_range.2 (by omega),by omega⟩)
theorem zqk (l:List (Int × Int)):labL.all (fun r =>zal l r)=true ↔ ∀ r,zal zng r=true→zal l r=true:=by
 rw [List.all_eq_true]
 constructor
 ·intro h r hr
  exact h r (znf hr)
 ·intro h r hr
  refine h r ?_
  unfold labL at hr
  rw [List.mem_append] at hr
  rcases hr with hr | hr
  ·simp at hr
   rcases hr with rfl | rfl | rfl | rfl | rfl | rfl | rfl | rfl | rfl | rfl | rfl
   all_goals decide
  ·obtain ⟨k,hk,rfl⟩:=List.mem_map.1 hr
   have:=List.mem_range.1 hk
   rw [zay]
   exact ⟨⟨(97,122),by simp [zng],by dsimp only;omega,by dsimp only;omega⟩,zgL (by omega) (by omega)⟩
theorem zp0 {w:World} {g:Nat} {l:List (Int × Int)} {cs:Array Value} {t:TypeId} (b:Blk w g cs t) (e:cs=(za6 l).toArray):RowC w w.heap.size (some ⟨g,0,none⟩) (za6 l):=fun _ =>⟨g,0,rfl,b.lt,fun j v hv =>by
 rw [Nat.zero_add,b.cell j,e,List.getElem?_toArray]
 exact hv⟩
theorem zdj (l:List (Int × Int)) (n:Nat) (hn:n=l.length) (hl:l.length≤10) (hR:za0 l) (g:Nat) (cs:Array Value) (t:TypeId) (w:World) (b:Blk w g cs t) (e:cs=(za6 l).toArray) :
  Calls Tryz.prog 75 #[.slice (some ⟨g,0,none⟩) n n] w fun e w' => ∃ (B:Nat),e=.returned (.pointer (some ⟨B,0,none⟩))∧SetV w' l B∧Below w.heap.size w w':=by
 subst hn
 exact zdi _ _ l (by omega) hR w (zdG (zp0 b e) (Nat.le_refl _))
theorem zjH {l1 l2:List (Int × Int)} {C1 C2:Nat} {w:World} (n1:l1.length≤5000) (n2:l2.length≤5000) (h1:SetV w l1 C1) (h2:SetV w l2 C2) :
  Calls Tryz.prog 149 #[.pointer (some ⟨C1,0,none⟩),.pointer (some ⟨C2,0,none⟩)] w fun e w' => ∃ (B:Nat),e=.returned (.pointer (some ⟨B,0,none⟩))∧SetV w' (l1++l2) B∧Below w.heap.size w w':=by
 obtain ⟨zs,lo1,a1,a2,a3,a4⟩:=h1
 obtain ⟨ys,lo2,b1,b2,b3,b4⟩:=h2
 refine (zkw C1 (some ⟨C2,0,none⟩) zs ys (by omega) (by omega) w (a1.set a2 (by omega)) (.inr ⟨C2,rfl,b1.set b2 (by omega)⟩)).mono ?_
 rintro e w' ⟨B',lo0,us,rfl,_,u1,u2,u3,u4,hb⟩
 exact ⟨B',rfl,⟨us,lo0,u1,u2,by rw [List.length_append];omega,fun r =>by rw [u4,a4,b4,zbt]⟩,hb⟩
theorem zj6 {l1 l2 l:List (Int × Int)} {C1 C2:Nat} {w:World} (n1:l1.length≤2000) (n2:l2.length≤2000) (hl:l1.length+l2.length+1≤l.length) (hm:∀ r,zal l r=(zal l1 r && !zal l2 r)) (h1:SetV w l1 C1) (h2:SetV w l2 C2) :
  Calls Tryz.prog 150 #[.pointer (some ⟨C1,0,none⟩),.pointer (some ⟨C2,0,none⟩)] w fun e w' => ∃ (B:Nat),e=.returned (.pointer (some ⟨B,0,none⟩))∧SetV w' l B∧Below w.heap.size w w':=by
 obtain ⟨zs,lo1,a1,a2,a3,a4⟩:=h1
 obtain ⟨ys,lo2,b1,b2,b3,b4⟩:=h2
 refine (zh1 C1 (some ⟨C2,0,none⟩) zs ys (by omega) (by omega) w (a1.set a2 (by omega)) (.inr ⟨C2,rfl,b1.set b2 (by omega)⟩)).mono ?_
 rintro e w' ⟨B',lo0,us,rfl,_,u1,u2,u3,u4,hb⟩
 exact ⟨B',rfl,⟨us,lo0,u1,u2,by omega,fun r =>by rw [u4,a4,b4,hm]⟩,hb⟩
def u3D (lo:Nat) (C4:Nat):Nat→Value→World→Prop
 | 0,v,w =>v=.pointer (some ⟨C4,0,none⟩)
 | 1,v,w =>v=.agg #[.int .i32 65,.int .i32 90]
 | 2,v,w => ∃ g,v=.slice (some ⟨g,0,none⟩) 1 1∧Blk w g #[.int .i32 65,.int .i32 90] 113
 | 3,v,w => ∃ B,v=.pointer (some ⟨B,0,none⟩)∧SetV w [(65,90)] B
 | 4,v,w => ∃ B,v=.pointer (some ⟨B,0,none⟩)∧SetV w zn1 B
 | 5,v,w => ∃ g,v=.pointer (some ⟨g,0,none⟩)∧lo≤g∧Blk w g #[.pointer none] 101
 | _,v,w =>True
structure UlF (w:World) (R B:Nat) (T:TV) (a0 a1 a2 a3 a4 a5 a6 a7:Option Addr) (c0 c1 c2 c3 c4 c5 c6 c7:Nat) (us:List Value) (Cc Ca g4 C4 g5 C5 g6 C6 C7 C8 g9 C9:Nat):Prop where
 st:StG w R B T a0 a1 a2 a3 a4 a5 a6 a7 c0 c1 c2 c3 c4 c5 c6 c7 us
 cc:w.cell? ⟨B,9,none⟩=some (.pointer (some ⟨Cc,0,none⟩))
 co:SetV w T.co Cc
 ca:w.cell? ⟨B,11,none⟩=some (.pointer (some ⟨Ca,0,none⟩))
 ao:SetV w T.al Ca
 low:StP w g4 C4 zmj
 unf:StP w g5 C5 zn1
 sti:StP w g6 C6 zqj
 com:SetV w zrH C7
 lab:SetV w zn5 C8
 nev:StP w g9 C9 zrd
theorem UlF.below {w w':World} {R B:Nat} {T:TV} {a0 a1 a2 a3 a4 a5 a6 a7:Option Addr} {c0 c1 c2 c3 c4 c5 c6 c7:Nat} {us:List Value} {Cc Ca g4 C4 g5 C5 g6 C6 C7 C8 g9 C9:Nat} (h:UlF w R B T a0 a1 a2 a3 a4 a5 a6 a7 c0 c1 c2 c3 c4 c5 c6 c7 us Cc Ca g4 C4 g5 C5 g6 C6 C7 C8 g9 C9) (hb:Below w.heap.size w w'):UlF w' R B T a0 a1 a2 a3 a4 a5 a6 a7 c0 c1 c2 c3 c4 c5 c6 c7 us Cc Ca g4 C4 g5 C5 g6 C6 C7 C8 g9 C9 :=
 ⟨h.st.below hb,(hb.cell (p:=⟨B,9,none⟩) h.st.tb.lt).trans h.cc,h.co.below hb,(hb.cell (p:=⟨B,11,none⟩) h.st.tb.lt).trans h.ca,h.ao.below hb,h.low.below hb,h.unf.below hb,h.sti.below hb,h.com.below hb,h.lab.below hb,h.nev.below hb⟩
def u8D (R:Nat) (B:Nat) (T:TV) (a0:Option Addr) (a1:Option Addr) (a2:Option Addr) (a3:Option Addr) (a4:Option Addr) (a5:Option Addr) (a6:Option Addr) (a7:Option Addr) (c0:Nat) (c1:Nat) (c2:Nat) (c3:Nat) (c4:Nat) (c5:Nat) (c6:Nat) (c7:Nat) (Cc:Nat) (Ca:Nat) (g4:Nat) (C4:Nat) (g5:Nat) (C5:Nat) (g6:Nat) (C6:Nat) (C7:Nat) (C8:Nat) (g9:Nat) (C9:Nat) (x0:Int × Int × Int) (x1:Int × Int × Int) (x2:Int × Int × Int) (x3:Int × Int × Int) (x4:Int × Int × Int) (x5:Int × Int × Int) (x6:Int × Int × Int) (x7:Int × Int × Int):Nat→Value→World→Prop
 | 0,v,w =>v=.pointer (some ⟨B,0,none⟩)
 | 1,v,w =>v=.pointer (some ⟨B,0,none⟩)
 | 2,v,w =>v=.pointer (some ⟨B,9,none⟩)
 | 3,v,w =>v=.pointer (some ⟨Cc,0,none⟩)
 | 4,v,w =>v=.pointer (some ⟨C7,0,none⟩)
 | 5,v,w =>v=wrV x0
 | 6,v,w =>v=.pointer (some ⟨B,0,none⟩)
 | 7,v,w =>v=.pointer (some ⟨B,0,none⟩)
 | 8,v,w =>v=.pointer (some ⟨B,0,none⟩)
 | 9,v,w =>v=.pointer (some ⟨B,2,none⟩)
 | 10,v,w =>v=.slice a2 T.ma.length c2
 | 11,v,w =>v=.func (.func 152) #[] #[.pointer (some ⟨g4,0,none⟩)]
 | 12,v,w =>v=wrV x1
 | 13,v,w =>v=.pointer (some ⟨B,0,none⟩)
 | 14,v,w =>v=.pointer (some ⟨B,0,none⟩)
 | 15,v,w =>v=.pointer (some ⟨B,0,none⟩)
 | 16,v,w =>v=.pointer (some ⟨B,3,none⟩)
 | 17,v,w =>v=.slice a3 T.pr.length c3
 | 18,v,w =>v=.func (.func 154) #[] #[.pointer (some ⟨g4,0,none⟩)]
 | 19,v,w =>v=wrV x2
 | 20,v,w =>v=.pointer (some ⟨B,0,none⟩)
 | 21,v,w =>v=.pointer (some ⟨B,0,none⟩)
 | 22,v,w =>v=.pointer (some ⟨B,0,none⟩)
 | 23,v,w =>v=.pointer (some ⟨B,4,none⟩)
 | 24,v,w =>v=.slice a4 T.fo.length c4
 | 25,v,w =>v=.func (.func 155) #[] #[.pointer (some ⟨g5,0,none⟩),.pointer (some ⟨g6,0,none⟩)]
 | 26,v,w =>v=wrV x3
 | 27,v,w =>v=.pointer (some ⟨B,0,none⟩)
 | 28,v,w =>v=.pointer (some ⟨B,0,none⟩)
 | 29,v,w =>v=.pointer (some ⟨B,0,none⟩)
 | 30,v,w =>v=.pointer (some ⟨B,5,none⟩)
 | 31,v,w =>v=.slice a5 T.lk.length c5
 | 32,v,w =>v=.func (.func 156) #[] #[.pointer (some ⟨g6,0,none⟩)]
 | 33,v,w =>v=wrV x4
 | 34,v,w =>v=.pointer (some ⟨B,0,none⟩)
 | 35,v,w =>v=.pointer (some ⟨B,0,none⟩)
 | 36,v,w =>v=.pointer (some ⟨B,0,none⟩)
 | 37,v,w =>v=.pointer (some ⟨B,6,none⟩)
 | 38,v,w =>v=.slice a6 T.dr.length c6
 | 39,v,w =>v=.func (.func 158) #[] #[.pointer (some ⟨g4,0,none⟩)]
 | 40,v,w =>v=wrV x5
 | 41,v,w =>v=.pointer (some ⟨B,0,none⟩)
 | 42,v,w =>v=.pointer (some ⟨B,0,none⟩)
 | 43,v,w =>v=.pointer (some ⟨B,0,none⟩)
 | 44,v,w =>v=.pointer (some ⟨B,7,none⟩)
 | 45,v,w =>v=.slice a7 T.al.length c7
 | 46,v,w =>v=.func (.func 160) #[] #[.pointer (some ⟨g9,0,none⟩)]
 | 47,v,w =>v=wrV x6
 | 48,v,w =>v=.pointer (some ⟨B,0,none⟩)
 | 49,v,w =>v=.pointer (some ⟨B,0,none⟩)
 | 50,v,w =>v=.pointer (some ⟨B,11,none⟩)
 | 51,v,w =>v=.pointer (some ⟨Ca,0,none⟩)
 | 52,v,w =>v=.pointer (some ⟨C8,0,none⟩)
 | 53,v,w =>v=wrV x7
 | 54,v,w => ∃ g,v=.slice (some ⟨g,0,none⟩) 8 8∧g < w.heap.size∧RwW w g 0 [x0,x1,x2,x3,x4,x5,x6,x7]
 | 55,v,w =>v=wrV (orW [x0,x1,x2,x3,x4,x5,x6,x7])
 | _,v,w =>True
structure UlB (W w:World) (R B:Nat) (T:TV) (a0 a1 a2 a3 a4 a5 a6 a7:Option Addr) (c0 c1 c2 c3 c4 c5 c6 c7:Nat) (us:List Value) (Cc Ca:Nat):Prop where
 bl:Below W.heap.size W w
 st:StG w R B T a0 a1 a2 a3 a4 a5 a6 a7 c0 c1 c2 c3 c4 c5 c6 c7 us
 cc:w.cell? ⟨B,9,none⟩=some (.pointer (some ⟨Cc,0,none⟩))
 co:SetV w T.co Cc
 ca:w.cell? ⟨B,11,none⟩=some (.pointer (some ⟨Ca,0,none⟩))
 ao:SetV w T.al Ca
theorem UlB.below {W w w':World} {R B:Nat} {T:TV} {a0 a1 a2 a3 a4 a5 a6 a7:Option Addr} {c0 c1 c2 c3 c4 c5 c6 c7:Nat} {us:List Value} {Cc Ca:Nat} (h:UlB W w R B T a0 a1 a2 a3 a4 a5 a6 a7 c0 c1 c2 c3 c4 c5 c6 c7 us Cc Ca) (hb:Below w.heap.size w w'):UlB W w' R B T a0 a1 a2 a3 a4 a5 a6 a7 c0 c1 c2 c3 c4 c5 c6 c7 us Cc Ca :=
 ⟨h.bl.trans (hb.mono h.bl.size),h.st.below hb,(hb.cell (p:=⟨B,9,none⟩) h.st.tb.lt).trans h.cc,h.co.below hb,(hb.cell (p:=⟨B,11,none⟩) h.st.tb.lt).trans h.ca,h.ao.below hb⟩
theorem zix {w:World} {C:Nat} {l:List (Int × Int)} (h:SetV w l C):StP (w.alloc (.cells #[.pointer (some ⟨C,0,none⟩)] 101)) w.heap.size C l:=⟨Blk.new w _ _,h.below ((Below.refl _ w).alloc (Nat.le_refl _) _)⟩
theorem al1 (w:World) (x:Obj):Below w.heap.size w (w.alloc x):=(Below.refl _ w).alloc (Nat.le_refl _) _
theorem al2 (w:World) (x y:Obj):Below w.heap.size w ((w.alloc x).alloc y):=((Below.refl _ w).alloc (Nat.le_refl _) _).alloc (by simp) _
theorem dr1 (w:World):Below w.heap.size w w.drew:=⟨rfl,rfl,rfl,Nat.le_refl _,fun _ _ =>rfl⟩
set_option maxRecDepth 100000 in
set_option maxHeartbeats 8000000 in
theorem zih {T:TV} (hO:zap T) (hz:(∀ x ∈ T.fo,x.2.size≤1048576)∧∀ x ∈ T.lk,x.2.size≤1048576) (B:Nat) (W:World) (h:BookAt W B T):Calls Tryz.prog 82 #[.pointer (some ⟨B,0,none⟩)] W fun e w' =>e=.returned (wrV (zgT T))∧Below W.heap.size W w':=by
 have hmx:Tryz.prog.follows .mixedOrders=true:=by kernel_rfl
 obtain ⟨a0,a1,a2,a3,a4,a5,a6,a7,c0,c1,c2,c3,c4,c5,c6,c7,us,tb⟩:=h.tabs
 obtain ⟨Cc,kc,sc⟩:=h.cos
 obtain ⟨Ca,ka,sa⟩:=h.als
 have hB1:=al1 W (.cells #[.int .i64 0,.int .i64 0,.int .i64 0] 76)
 have H1:UlB W (W.alloc (.cells #[.int .i64 0,.int .i64 0,.int .i64 0] 76)) W.heap.size B T a0 a1 a2 a3 a4 a5 a6 a7 c0 c1 c2 c3 c4 c5 c6 c7 us Cc Ca:=⟨hB1,⟨h.below hB1,Blk.new W _ _,tb.below hB1⟩,(hB1.cell (p:=⟨B,9,none⟩) tb.lt).trans kc,sc.below hB1,(hB1.cell (p:=⟨B,11,none⟩) tb.lt).trans ka,sa.below hB1⟩
 have HO:=kz hO
 have HZ:=kz hz
 have b2:Blk ((W.alloc (.cells #[.int .i64 0,.int .i64 0,.int .i64 0] 76)).alloc (.cells #[.int .i32 0,.int .i32 127] 113)) (W.heap.size+1) #[.int .i32 0,.int .i32 127] 113:=by
  have h:=Blk.new (W.alloc (.cells #[.int .i64 0,.int .i64 0,.int .i64 0] 76)) #[.int .i32 0,.int .i32 127] 113
  rw [World.size_alloc] at h
  exact h
 have HC:=kz (zdj [(0,127)] 1 rfl (by decide) (by unfold za0;decide) _ _ _ _ b2 rfl)
 have HS:=kz (H1.below (al1 _ (.cells #[.int .i32 0,.int .i32 127] 113)))
 clear hO hz tb kc sc ka sa hB1 H1 b2 h
 go_enter Tryz.func82,Tryz.ntmps82
 go_wp2_with fail
 refine (oz HC).mono ?_
 rintro e w3 ⟨C3,rfl,hs,hb⟩
 have HS3:=kz (And.intro ((oz HS).below hb) hs)
 clear hs hb HC HS
 have HC:=kz (zdj [(65533,65533)] 1 rfl (by decide) (by unfold za0;decide) _ _ _ _ (Blk.new w3 #[.int .i32 65533,.int .i32 65533] 113) rfl)
 have HS:=kz (And.intro ((oz HS3).1.below (al1 w3 (.cells #[.int .i32 65533,.int .i32 65533] 113))) ((oz HS3).2.below (al1 w3 (.cells #[.int .i32 65533,.int .i32 65533] 113))))
 clear HS3
 go_wp2_with fail
 refine (oz HC).mono ?_
 rintro e w4 ⟨Cx,rfl,hs,hb⟩
 have HS4:=kz (And.intro ((oz HS).1.below hb) ((oz HS).2.below hb))
 have HC:=kz (zjH (by decide) (by decide) (oz HS4).2 hs)
 clear hs hb HS
 go_wp2_with fail
 refine (oz HC).mono ?_
 rintro e w5 ⟨C4,rfl,hs,hb⟩
 have hn:=al1 w5 (.cells #[.pointer (some ⟨C4,0,none⟩)] 101)
 have HS:=kz (And.intro (((oz HS4).1.below hb).below hn) (And.intro (((oz HS4).2.below hb).below hn) (zix hs)))
 clear hs hb hn HC HS4
 go_wp2_with fail
 generalize w5.alloc (.cells #[.pointer (some ⟨C4,0,none⟩)] 101)=w6 at *
 obtain ⟨g4,hg4⟩:∃ g4,g4=w5.heap.size:=⟨_,rfl⟩
 rw [← hg4] at HS ⊢
 clear hg4
 have HF:Hz (∀ w1,Below w6.drew.heap.size w6.drew w1→StP w1 g4 C4 zoD):=kz (fun w1 hb =>((oz HS).2.2.below (dr1 w6)).below hb)
 refine ulReg3_any hmx HF ?_
 intro U g5 C5 w7 HN
 have HS7:=kz (And.intro ((oz HS).1.below (oz HN).2) (And.intro ((oz HS).2.1.below (oz HN).2) (And.intro ((oz HS).2.2.below (oz HN).2) (oz HN).1)))
 clear HF HS HN
 have hn:=al1 w7 (.cells #[.int .i32 0,.int .i32 31,.int .i32 45,.int .i32 46,.int .i32 65533,.int .i32 65533] 113)
 have HC:=kz (zdj zqb 3 rfl (by decide) (by unfold za0;decide) _ _ _ _ (Blk.new w7 #[.int .i32 0,.int .i32 31,.int .i32 45,.int .i32 46,.int .i32 65533,.int .i32 65533] 113) rfl)
 have HS:=kz (And.intro ((oz HS7).1.below hn) (And.intro ((oz HS7).2.1.below hn) (And.intro ((oz HS7).2.2.1.below hn) ((oz HS7).2.2.2.below hn))))
 clear hn HS7
 go_wp2_with fail
 refine (oz HC).mono ?_
 rintro e w8 ⟨C6,rfl,hs,hb⟩
 have hn:Below w8.heap.size w8 (w8.alloc (.cells #[.pointer (some ⟨C6,0,none⟩)] 101)):=al1 _ _
 have hm:Below w8.heap.size w8 ((w8.alloc (.cells #[.pointer (some ⟨C6,0,none⟩)] 101)).alloc (.cells #[.int .i32 45,.int .i32 46,.int .i32 48,.int .i32 57] 113)):=al2 _ _ _
 have HS8:=kz (And.intro (((oz HS).1.below hb).below hm) (And.intro (((oz HS).2.1.below hb).below hm) (And.intro (((oz HS).2.2.1.below hb).below hm) (And.intro (((oz HS).2.2.2.below hb).below hm) ((zix hs).below (al1 _ (.cells #[.int .i32 45,.int .i32 46,.int .i32 48,.int .i32 57] 113)))))))
 have b9:Blk ((w8.alloc (.cells #[.pointer (some ⟨C6,0,none⟩)] 101)).alloc (.cells #[.int .i32 45,.int .i32 46,.int .i32 48,.int .i32 57] 113)) (w8.heap.size+1) #[.int .i32 45,.int .i32 46,.int .i32 48,.int .i32 57] 113:=by
  have h:=Blk.new (w8.alloc (.cells #[.pointer (some ⟨C6,0,none⟩)] 101)) #[.int .i32 45,.int .i32 46,.int .i32 48,.int .i32 57] 113
  rw [World.size_alloc] at h
  exact h
 have HC:=kz (zdj zqo 2 rfl (by decide) (by unfold za0;decide) _ _ _ _ b9 rfl)
 clear hs hb hn hm HS b9
 go_wp2_with fail
 refine (oz HC).mono ?_
 rintro e w9 ⟨C7,rfl,hs,hb⟩
 have hn:=al1 w9 (.cells #[.int .i32 45,.int .i32 45,.int .i32 48,.int .i32 57,.int .i32 97,.int .i32 122] 113)
 obtain ⟨g6,hg6⟩:∃ g6,g6=w8.heap.size:=⟨_,rfl⟩
 rw [← hg6] at HS8 ⊢
 clear hg6
 have HS9:=kz (And.intro (((oz HS8).1.below hb).below hn) (And.intro (((oz HS8).2.1.below hb).below hn) (And.intro (((oz HS8).2.2.1.below hb).below hn) (And.intro (((oz HS8).2.2.2.1.below hb).below hn) (And.intro (((oz HS8).2.2.2.2.below hb).below hn) (hs.below hn))))))
 have HC:=kz (zdj zng 3 rfl (by decide) (by unfold za0;decide) _ _ _ _ (Blk.new w9 #[.int .i32 45,.int .i32 45,.int .i32 48,.int .i32 57,.int .i32 97,.int .i32 122] 113) rfl)
 clear hs hb hn HS8
 go_wp2_with fail
 refine (oz HC).mono ?_
 rintro e w10 ⟨C8,rfl,hs,hb⟩
 have HS10:=kz (And.intro ((oz HS9).1.below hb) (And.intro ((oz HS9).2.1.below hb) (And.intro ((oz HS9).2.2.1.below hb) (And.intro ((oz HS9).2.2.2.1.below hb) (And.intro ((oz HS9).2.2.2.2.1.below hb) (And.intro ((oz HS9).2.2.2.2.2.below hb) hs))))))
 have HC:=kz (zj6 (l:=zqf) (by decide) (by decide) (by decide) ziL (oz HS10).2.1 (oz HS10).2.2.2.2.2.2)
 clear hs hb HS9
 go_wp2_with fail
 refine (oz HC).mono ?_
 rintro e w11 ⟨C9,rfl,hs,hb⟩
 have hn:=al1 w11 (.cells #[.pointer (some ⟨C9,0,none⟩)] 101)
 have HS11:Hz (UlF (w11.alloc (.cells #[.pointer (some ⟨C9,0,none⟩)] 101)) W.heap.size B T a0 a1 a2 a3 a4 a5 a6 a7 c0 c1 c2 c3 c4 c5 c6 c7 us Cc Ca g4 C4 g5 C5 g6 C6 C7 C8 w11.heap.size C9∧Below W.heap.size W (w11.alloc (.cells #[.pointer (some ⟨C9,0,none⟩)] 101))):=kz (by
  have u:=((oz HS10).1.below hb).below hn
  exact ⟨⟨u.st,u.cc,u.co,u.ca,u.ao,((oz HS10).2.2.1.below hb).below hn,((oz HS10).2.2.2.1.below hb).below hn,((oz HS10).2.2.2.2.1.below hb).below hn,((oz HS10).2.2.2.2.2.1.below hb).below hn,((oz HS10).2.2.2.2.2.2.below hb).below hn,zix hs⟩,u.bl⟩)
 clear hs hb hn HS10 HC
 go_wp2_with fail
 generalize w11.alloc (.cells #[.pointer (some ⟨C9,0,none⟩)] 101)=w12 at *
 have HF:Hz (∀ w1,Below w12.drew.heap.size w12.drew w1→UlF w1 W.heap.size B T a0 a1 a2 a3 a4 a5 a6 a7 c0 c1 c2 c3 c4 c5 c6 c7 us Cc Ca g4 C4 g5 C5 g6 C6 C7 C8 w11.heap.size C9):=kz (fun w1 hb =>((oz HS11).1.below (dr1 w12)).below hb)
 have HB:Hz (Below W.heap.size W w12.drew∧W.heap.size≤W.heap.size):=kz ⟨(oz HS11).2.trans ((dr1 w12).mono (oz HS11).2.size),Nat.le_refl _⟩
 refine ulReg8_any (oz HO) (oz HZ) hmx HF HB ?_
 intro U2 y0 y1 y2 wn HN
 go_wp2_with fail
 exact bodyPost_ret (v:=wrV (y0,y1,y2)) (zcH Tryz.results82 rfl (oz HN).2.2 rfl) rfl ⟨by rw [(oz HN).1],(oz HN).2.1⟩
def wrL (T:TV):List (Int × Int × Int) := [zhY T,zkR T,zib T,zk2 T,zqu T,zgT T]
theorem zps (T:TV):∀ x ∈ wrL T,OkW x:=by
 intro x hx
 unfold wrL at hx
 simp only [List.mem_cons,List.not_mem_nil,or_false] at hx
 rcases hx with rfl | rfl | rfl | rfl | rfl | rfl
 ·exact eachW_okW _ _ _ _
 ·exact eachW_okW _ _ _ _
 all_goals exact zdZ _
structure WrS (W w:World) (B:Nat) (T:TV):Prop where
 bl:Below W.heap.size W w
 rs:Blk w W.heap.size #[.int .i64 0,.int .i64 0,.int .i64 0] 76
 fs:Blk w (W.heap.size+1) #[.func (.func 77) #[.pointer (some ⟨B,0,none⟩)] #[],.func (.func 78) #[.pointer (some ⟨B,0,none⟩)] #[],.func (.func 79) #[.pointer (some ⟨B,0,none⟩)] #[],.func (.func 80) #[.pointer (some ⟨B,0,none⟩)] #[],.func (.func 81) #[.pointer (some ⟨B,0,none⟩)] #[],.func (.func 82) #[.pointer (some ⟨B,0,none⟩)] #[]] 111
 bk:BookAt w B T
theorem WrS.below {W w w':World} {B:Nat} {T:TV} (h:WrS W w B T) (hb:Below w.heap.size w w'):WrS W w' B T:=⟨h.bl.trans (hb.mono h.bl.size),h.rs.below hb h.rs.lt,h.fs.below hb h.fs.lt,h.bk.below hb⟩
set_option maxRecDepth 100000 in
set_option maxHeartbeats 8000000 in
theorem zi7 {T:TV} (hO:zap T) (hz:(∀ x ∈ T.fo,x.2.size≤1048576)∧∀ x ∈ T.lk,x.2.size≤1048576) (B:Nat) (W:World) (h:BookAt W B T):Calls Tryz.prog 53 #[.pointer (some ⟨B,0,none⟩)] W fun e w' =>e=.returned (wrV (orW (wrL T)))∧Below W.heap.size W w':=by
 have hmf:∀ (fn:Fn) (first cap:Array Value) (w:World),(Instr.makeFunc fn first cap).run Tryz.prog w=.ok (.func fn first cap) w:=fun _ _ _ _ =>rfl
 have hB0:Below W.heap.size W ((W.alloc (.cells #[.int .i64 0,.int .i64 0,.int .i64 0] 76)).alloc (.cells #[.func (.func 77) #[.pointer (some ⟨B,0,none⟩)] #[],.func (.func 78) #[.pointer (some ⟨B,0,none⟩)] #[],.func (.func 79) #[.pointer (some ⟨B,0,none⟩)] #[],.func (.func 80) #[.pointer (some ⟨B,0,none⟩)] #[],.func (.func 81) #[.pointer (some ⟨B,0,none⟩)] #[],.func (.func 82) #[.pointer (some ⟨B,0,none⟩)] #[]] 111)):=((Below.refl _ W).alloc (Nat.le_refl _) _).alloc (by simp) _
 have bF:Blk ((W.alloc (.cells #[.int .i64 0,.int .i64 0,.int .i64 0] 76)).alloc (.cells #[.func (.func 77) #[.pointer (some ⟨B,0,none⟩)] #[],.func (.func 78) #[.pointer (some ⟨B,0,none⟩)] #[],.func (.func 79) #[.pointer (some ⟨B,0,none⟩)] #[],.func (.func 80) #[.pointer (some ⟨B,0,none⟩)] #[],.func (.func 81) #[.pointer (some ⟨B,0,none⟩)] #[],.func (.func 82) #[.pointer (some ⟨B,0,none⟩)] #[]] 111)) (W.heap.size+1) #[.func (.func 77) #[.pointer (some ⟨B,0,none⟩)] #[],.func (.func 78) #[.pointer (some ⟨B,0,none⟩)] #[],.func (.func 79) #[.pointer (some ⟨B,0,none⟩)] #[],.func (.func 80) #[.pointer (some ⟨B,0,none⟩)] #[],.func (.func 81) #[.pointer (some ⟨B,0,none⟩)] #[],.func (.func 82) #[.pointer (some ⟨B,0,none⟩)] #[]] 111:=by
  have h:=Blk.new (W.alloc (.cells #[.int .i64 0,.int .i64 0,.int .i64 0] 76)) #[.func (.func 77) #[.pointer (some ⟨B,0,none⟩)] #[],.func (.func 78) #[.pointer (some ⟨B,0,none⟩)] #[],.func (.func 79) #[.pointer (some ⟨B,0,none⟩)] #[],.func (.func 80) #[.pointer (some ⟨B,0,none⟩)] #[],.func (.func 81) #[.pointer (some ⟨B,0,none⟩)] #[],.func (.func 82) #[.pointer (some ⟨B,0,none⟩)] #[]] 111
  rw [World.size_alloc] at h
  exact h
 have H0:Hz (WrS W ((W.alloc (.cells #[.int .i64 0,.int .i64 0,.int .i64 0] 76)).alloc (.cells #[.func (.func 77) #[.pointer (some ⟨B,0,none⟩)] #[],.func (.func 78) #[.pointer (some ⟨B,0,none⟩)] #[],.func (.func 79) #[.pointer (some ⟨B,0,none⟩)] #[],.func (.func 80) #[.pointer (some ⟨B,0,none⟩)] #[],.func (.func 81) #[.pointer (some ⟨B,0,none⟩)] #[],.func (.func 82) #[.pointer (some ⟨B,0,none⟩)] #[]] 111)) B T):=kz ⟨hB0,(Blk.new W _ _).alloc _,bF,h.below hB0⟩
 have HO:=kz hO
 have HZ:=kz hz
 have HK:=kz (zps T)
 clear hB0 bF h hO hz
 go_enter Tryz.func53,Tryz.ntmps53
 go_wp2_with fail
 generalize ((W.alloc (.cells #[.int .i64 0,.int .i64 0,.int .i64 0] 76)).alloc (.cells #[.func (.func 77) #[.pointer (some ⟨B,0,none⟩)] #[],.func (.func 78) #[.pointer (some ⟨B,0,none⟩)] #[],.func (.func 79) #[.pointer (some ⟨B,0,none⟩)] #[],.func (.func 80) #[.pointer (some ⟨B,0,none⟩)] #[],.func (.func 81) #[.pointer (some ⟨B,0,none⟩)] #[],.func (.func 82) #[.pointer (some ⟨B,0,none⟩)] #[]] 111))=u0 at *
 clear hmf
 go_loopw [4,5,20] (fun _ _ s20 wr => ∃ k:Nat,k≤6∧s20=.int .i64 k∧Hz (orW (wrL T)=orW ((wrL T).drop k))∧Hz (WrS W wr B T)) (fun _ _ s20 _ =>6 - (intOf s20).toNat)
 case atStart =>exact ⟨0,Nat.zero_le _,rfl,kz (by rw [List.drop_zero]),H0⟩
 case round =>
  obtain ⟨k,hk,rfl,HD,HS⟩:=hrel
  clear H0
  obtain rfl | rfl | rfl | rfl | rfl | rfl | rfl:k=0∨k=1∨k=2∨k=3∨k=4∨k=5∨k=6:=by omega
  ·have g0:=(oz HS).fs.cell 0
   have HC:=kz (bkMispaired_any (oz HO) B wr (oz HS).bk)
   obtain ⟨x,hx⟩:∃ x,zhY T=x:=⟨_,rfl⟩
   have HX:Hz (orW (wrL T)=orW (x::(wrL T).drop 1)∧OkW x):=kz ⟨by rw [oz HD, ← hx];rfl,oz HK x (by rw [← hx];unfold wrL;simp)⟩
   rw [hx] at HC
   clear hx HD
   obtain ⟨x0,x1,x2⟩:=x
   unfold wrV at HC
   dsimp only at HC
   by_cases hz0:x0=0
   ·obtain ⟨h0,hh⟩:=Prod.mk.inj ((oz HX).2 hz0)
    obtain ⟨rfl,rfl⟩:=Prod.mk.inj hh
    subst h0
    have HD2:Hz (orW (wrL T)=orW ((wrL T).drop 1)):=kz (by rw [(oz HX).1,zad rfl])
    clear hz0 hh HX
    go_wp2_with (go_at_call 77;refine (oz HC).mono ?_;rintro e w5 ⟨rfl,hb⟩;have HS2:=kz (((oz HS).below hb).below ((Below.refl _ w5).alloc (Nat.le_refl _) (.cells #[.int .i64 0,.int .i64 0,.int .i64 0] 76)));clear hb)
    exact ⟨⟨1,by omega,by go_num,HD2,HS2⟩,by simp [intOf]⟩
   ·have n0:(x0 == 0)=false:=by simpa using hz0
    have n1:(x0 != 0)=true:=by simpa using hz0
    have HV:Hz (orW (wrL T)=(x0,x1,x2)):=kz (by rw [(oz HX).1,zak hz0])
    clear HX
    go_wp2_with (go_at_call 77;refine (oz HC).mono ?_;rintro e w5 ⟨rfl,hb⟩;have HS2:=kz (((oz HS).below hb).below ((Below.refl _ w5).alloc (Nat.le_refl _) (.cells #[.int .i64 x0,.int .i64 x1,.int .i64 x2] 76)));have r0:=(oz HS2).rs.cell 0;have r1:=(oz HS2).rs.cell 1;have r2:=(oz HS2).rs.cell 2;have f0:=(oz HS2).rs.frozen 0;have f1:=(oz HS2).rs.frozen 1;have f2:=(oz HS2).rs.frozen 2;clear hb)
    rw [oz HV]
    exact bodyPost_ret (v:=wrV (x0,x1,x2)) (zcH Tryz.results53 rfl (zcI (oz HS2).rs _ _ _) rfl) rfl ⟨rfl,za3 (oz HS2).bl (Nat.le_refl _) (oz HS2).bl.size _ _ _⟩
  ·have g0:=(oz HS).fs.cell 1
   have HC:=kz (bkEndless_any (oz HO) B wr (oz HS).bk)
   obtain ⟨x,hx⟩:∃ x,zkR T=x:=⟨_,rfl⟩
   have HX:Hz (orW (wrL T)=orW (x::(wrL T).drop 2)∧OkW x):=kz ⟨by rw [oz HD, ← hx];rfl,oz HK x (by rw [← hx];unfold wrL;simp)⟩
   rw [hx] at HC
   clear hx HD
   obtain ⟨x0,x1,x2⟩:=x
   unfold wrV at HC
   dsimp only at HC
   by_cases hz0:x0=0
   ·obtain ⟨h0,hh⟩:=Prod.mk.inj ((oz HX).2 hz0)
    obtain ⟨rfl,rfl⟩:=Prod.mk.inj hh
    subst h0
    have HD2:Hz (orW (wrL T)=orW ((wrL T).drop 2)):=kz (by rw [(oz HX).1,zad rfl])
    clear hz0 hh HX
    go_wp2_with (go_at_call 78;refine (oz HC).mono ?_;rintro e w5 ⟨rfl,hb⟩;have HS2:=kz (((oz HS).below hb).below ((Below.refl _ w5).alloc (Nat.le_refl _) (.cells #[.int .i64 0,.int .i64 0,.int .i64 0] 76)));clear hb)
    exact ⟨⟨2,by omega,by go_num,HD2,HS2⟩,by simp [intOf]⟩
   ·have n0:(x0 == 0)=false:=by simpa using hz0
    have n1:(x0 != 0)=true:=by simpa using hz0
    have HV:Hz (orW (wrL T)=(x0,x1,x2)):=kz (by rw [(oz HX).1,zak hz0])
    clear HX
    go_wp2_with (go_at_call 78;refine (oz HC).mono ?_;rintro e w5 ⟨rfl,hb⟩;have HS2:=kz (((oz HS).below hb).below ((Below.refl _ w5).alloc (Nat.le_refl _) (.cells #[.int .i64 x0,.int .i64 x1,.int .i64 x2] 76)));have r0:=(oz HS2).rs.cell 0;have r1:=(oz HS2).rs.cell 1;have r2:=(oz HS2).rs.cell 2;have f0:=(oz HS2).rs.frozen 0;have f1:=(oz HS2).rs.frozen 1;have f2:=(oz HS2).rs.frozen 2;clear hb)
    rw [oz HV]
    exact bodyPost_ret (v:=wrV (x0,x1,x2)) (zcH Tryz.results53 rfl (zcI (oz HS2).rs _ _ _) rfl) rfl ⟨rfl,za3 (oz HS2).bl (Nat.le_refl _) (oz HS2).bl.size _ _ _⟩
  ·have g0:=(oz HS).fs.cell 2
   have HC:=kz (bkUnseen_any (oz HO) B wr (oz HS).bk)
   obtain ⟨x,hx⟩:∃ x,zib T=x:=⟨_,rfl⟩
   have HX:Hz (orW (wrL T)=orW (x::(wrL T).drop 3)∧OkW x):=kz ⟨by rw [oz HD, ← hx];rfl,oz HK x (by rw [← hx];unfold wrL;simp)⟩
   rw [hx] at HC
   clear hx HD
   obtain ⟨x0,x1,x2⟩:=x
   unfold wrV at HC
   dsimp only at HC
   by_cases hz0:x0=0
   ·obtain ⟨h0,hh⟩:=Prod.mk.inj ((oz HX).2 hz0)
    obtain ⟨rfl,rfl⟩:=Prod.mk.inj hh
    subst h0
    have HD2:Hz (orW (wrL T)=orW ((wrL T).drop 3)):=kz (by rw [(oz HX).1,zad rfl])
    clear hz0 hh HX
    go_wp2_with (go_at_call 79;refine (oz HC).mono ?_;rintro e w5 ⟨rfl,hb⟩;have HS2:=kz (((oz HS).below hb).below ((Below.refl _ w5).alloc (Nat.le_refl _) (.cells #[.int .i64 0,.int .i64 0,.int .i64 0] 76)));clear hb)
    exact ⟨⟨3,by omega,by go_num,HD2,HS2⟩,by simp [intOf]⟩
   ·have n0:(x0 == 0)=false:=by simpa using hz0
    have n1:(x0 != 0)=true:=by simpa using hz0
    have HV:Hz (orW (wrL T)=(x0,x1,x2)):=kz (by rw [(oz HX).1,zak hz0])
    clear HX
    go_wp2_with (go_at_call 79;refine (oz HC).mono ?_;rintro e w5 ⟨rfl,hb⟩;have HS2:=kz (((oz HS).below hb).below ((Below.refl _ w5).alloc (Nat.le_refl _) (.cells #[.int .i64 x0,.int .i64 x1,.int .i64 x2] 76)));have r0:=(oz HS2).rs.cell 0;have r1:=(oz HS2).rs.cell 1;have r2:=(oz HS2).rs.cell 2;have f0:=(oz HS2).rs.frozen 0;have f1:=(oz HS2).rs.frozen 1;have f2:=(oz HS2).rs.frozen 2;clear hb)
    rw [oz HV]
    exact bodyPost_ret (v:=wrV (x0,x1,x2)) (zcH Tryz.results53 rfl (zcI (oz HS2).rs _ _ _) rfl) rfl ⟨rfl,za3 (oz HS2).bl (Nat.le_refl _) (oz HS2).bl.size _ _ _⟩
  ·have g0:=(oz HS).fs.cell 3
   have HC:=kz (bkUnplainFroms_any (oz HO) B wr (oz HS).bk)
   obtain ⟨x,hx⟩:∃ x,zk2 T=x:=⟨_,rfl⟩
   have HX:Hz (orW (wrL T)=orW (x::(wrL T).drop 4)∧OkW x):=kz ⟨by rw [oz HD, ← hx];rfl,oz HK x (by rw [← hx];unfold wrL;simp)⟩
   rw [hx] at HC
   clear hx HD
   obtain ⟨x0,x1,x2⟩:=x
   unfold wrV at HC
   dsimp only at HC
   by_cases hz0:x0=0
   ·obtain ⟨h0,hh⟩:=Prod.mk.inj ((oz HX).2 hz0)
    obtain ⟨rfl,rfl⟩:=Prod.mk.inj hh
    subst h0
    have HD2:Hz (orW (wrL T)=orW ((wrL T).drop 4)):=kz (by rw [(oz HX).1,zad rfl])
    clear hz0 hh HX
    go_wp2_with (go_at_call 80;refine (oz HC).mono ?_;rintro e w5 ⟨rfl,hb⟩;have HS2:=kz (((oz HS).below hb).below ((Below.refl _ w5).alloc (Nat.le_refl _) (.cells #[.int .i64 0,.int .i64 0,.int .i64 0] 76)));clear hb)
    exact ⟨⟨4,by omega,by go_num,HD2,HS2⟩,by simp [intOf]⟩
   ·have n0:(x0 == 0)=false:=by simpa using hz0
    have n1:(x0 != 0)=true:=by simpa using hz0
    have HV:Hz (orW (wrL T)=(x0,x1,x2)):=kz (by rw [(oz HX).1,zak hz0])
    clear HX
    go_wp2_with (go_at_call 80;refine (oz HC).mono ?_;rintro e w5 ⟨rfl,hb⟩;have HS2:=kz (((oz HS).below hb).below ((Below.refl _ w5).alloc (Nat.le_refl _) (.cells #[.int .i64 x0,.int .i64 x1,.int .i64 x2] 76)));have r0:=(oz HS2).rs.cell 0;have r1:=(oz HS2).rs.cell 1;have r2:=(oz HS2).rs.cell 2;have f0:=(oz HS2).rs.frozen 0;have f1:=(oz HS2).rs.frozen 1;have f2:=(oz HS2).rs.frozen 2;clear hb)
    rw [oz HV]
    exact bodyPost_ret (v:=wrV (x0,x1,x2)) (zcH Tryz.results53 rfl (zcI (oz HS2).rs _ _ _) rfl) rfl ⟨rfl,za3 (oz HS2).bl (Nat.le_refl _) (oz HS2).bl.size _ _ _⟩
  ·have g0:=(oz HS).fs.cell 4
   have HC:=kz (bkUnplainTos_any (oz HO) (oz HZ) B wr (oz HS).bk)
   obtain ⟨x,hx⟩:∃ x,zqu T=x:=⟨_,rfl⟩
   have HX:Hz (orW (wrL T)=orW (x::(wrL T).drop 5)∧OkW x):=kz ⟨by rw [oz HD, ← hx];rfl,oz HK x (by rw [← hx];unfold wrL;simp)⟩
   rw [hx] at HC
   clear hx HD
   obtain ⟨x0,x1,x2⟩:=x
   unfold wrV at HC
   dsimp only at HC
   by_cases hz0:x0=0
   ·obtain ⟨h0,hh⟩:=Prod.mk.inj ((oz HX).2 hz0)
    obtain ⟨rfl,rfl⟩:=Prod.mk.inj hh
    subst h0
    have HD2:Hz (orW (wrL T)=orW ((wrL T).drop 5)):=kz (by rw [(oz HX).1,zad rfl])
    clear hz0 hh HX
    go_wp2_with (go_at_call 81;refine (oz HC).mono ?_;rintro e w5 ⟨rfl,hb⟩;have HS2:=kz (((oz HS).below hb).below ((Below.refl _ w5).alloc (Nat.le_refl _) (.cells #[.int .i64 0,.int .i64 0,.int .i64 0] 76)));clear hb)
    exact ⟨⟨5,by omega,by go_num,HD2,HS2⟩,by simp [intOf]⟩
   ·have n0:(x0 == 0)=false:=by simpa using hz0
    have n1:(x0 != 0)=true:=by simpa using hz0
    have HV:Hz (orW (wrL T)=(x0,x1,x2)):=kz (by rw [(oz HX).1,zak hz0])
    clear HX
    go_wp2_with (go_at_call 81;refine (oz HC).mono ?_;rintro e w5 ⟨rfl,hb⟩;have HS2:=kz (((oz HS).below hb).below ((Below.refl _ w5).alloc (Nat.le_refl _) (.cells #[.int .i64 x0,.int .i64 x1,.int .i64 x2] 76)));have r0:=(oz HS2).rs.cell 0;have r1:=(oz HS2).rs.cell 1;have r2:=(oz HS2).rs.cell 2;have f0:=(oz HS2).rs.frozen 0;have f1:=(oz HS2).rs.frozen 1;have f2:=(oz HS2).rs.frozen 2;clear hb)
    rw [oz HV]
    exact bodyPost_ret (v:=wrV (x0,x1,x2)) (zcH Tryz.results53 rfl (zcI (oz HS2).rs _ _ _) rfl) rfl ⟨rfl,za3 (oz HS2).bl (Nat.le_refl _) (oz HS2).bl.size _ _ _⟩
  ·have g0:=(oz HS).fs.cell 5
   have HC:=kz (zih (oz HO) (oz HZ) B wr (oz HS).bk)
   obtain ⟨x,hx⟩:∃ x,zgT T=x:=⟨_,rfl⟩
   have HX:Hz (orW (wrL T)=orW (x::(wrL T).drop 6)∧OkW x):=kz ⟨by rw [oz HD, ← hx];rfl,oz HK x (by rw [← hx];unfold wrL;simp)⟩
   rw [hx] at HC
   clear hx HD
   obtain ⟨x0,x1,x2⟩:=x
   unfold wrV at HC
   dsimp only at HC
   by_cases hz0:x0=0
   ·obtain ⟨h0,hh⟩:=Prod.mk.inj ((oz HX).2 hz0)
    obtain ⟨rfl,rfl⟩:=Prod.mk.inj hh
    subst h0
    have HD2:Hz (orW (wrL T)=orW ((wrL T).drop 6)):=kz (by rw [(oz HX).1,zad rfl])
    clear hz0 hh HX
    go_wp2_with (go_at_call 82;refine (oz HC).mono ?_;rintro e w5 ⟨rfl,hb⟩;have HS2:=kz (((oz HS).below hb).below ((Below.refl _ w5).alloc (Nat.le_refl _) (.cells #[.int .i64 0,.int .i64 0,.int .i64 0] 76)));clear hb)
    exact ⟨⟨6,by omega,by go_num,HD2,HS2⟩,by simp [intOf]⟩
   ·have n0:(x0 == 0)=false:=by simpa using hz0
    have n1:(x0 != 0)=true:=by simpa using hz0
    have HV:Hz (orW (wrL T)=(x0,x1,x2)):=kz (by rw [(oz HX).1,zak hz0])
    clear HX
    go_wp2_with (go_at_call 82;refine (oz HC).mono ?_;rintro e w5 ⟨rfl,hb⟩;have HS2:=kz (((oz HS).below hb).below ((Below.refl _ w5).alloc (Nat.le_refl _) (.cells #[.int .i64 x0,.int .i64 x1,.int .i64 x2] 76)));have r0:=(oz HS2).rs.cell 0;have r1:=(oz HS2).rs.cell 1;have r2:=(oz HS2).rs.cell 2;have f0:=(oz HS2).rs.frozen 0;have f1:=(oz HS2).rs.frozen 1;have f2:=(oz HS2).rs.frozen 2;clear hb)
    rw [oz HV]
    exact bodyPost_ret (v:=wrV (x0,x1,x2)) (zcH Tryz.results53 rfl (zcI (oz HS2).rs _ _ _) rfl) rfl ⟨rfl,za3 (oz HS2).bl (Nat.le_refl _) (oz HS2).bl.size _ _ _⟩
  ·have HV:Hz (orW (wrL T)=(0,0,0)):=kz (by rw [oz HD];rfl)
   have r0:=(oz HS).rs.cell 0
   have r1:=(oz HS).rs.cell 1
   have r2:=(oz HS).rs.cell 2
   have f0:=(oz HS).rs.frozen 0
   have f1:=(oz HS).rs.frozen 1
   have f2:=(oz HS).rs.frozen 2
   clear HD
   go_wp2_with fail
   rw [oz HV]
   exact bodyPost_ret (v:=wrV (0,0,0)) (zcH Tryz.results53 rfl (zcI (oz HS).rs _ _ _) rfl) rfl ⟨rfl,za3 (oz HS).bl (Nat.le_refl _) (oz HS).bl.size _ _ _⟩
end Go.Proofs.YtmemedpoaocdkaaGreat
