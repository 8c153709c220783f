/- Texts of this claim, one behind the other. -/
import Derived.Test.YtmemedpoaocdkaaGreatM26
import Derived.BigRegion
import Derived.Lib.AppendZeros
import Derived.Test.YtmemedpoaocdkaaGreatM20
/- Meet of two sets. -/
namespace Go.Proofs.YtmemedpoaocdkaaGreat
open Go.RowKit Go.Shelf
set_option linter.unusedVariables false
theorem ze6 {w:World} {a:Addr} {v:Value} (h:w.cell? a=some v):∀ o:Obj,(w.alloc o).cell? a=some v:=fun o =>zaP o h
theorem zil {w:World} {a:Addr} {v:Value} (h:w.cell? a=some v):∀ o o':Obj,((w.alloc o).alloc o').cell? a=some v:=fun o o' =>zaP o' (zaP o h)
theorem zhe (w:World):Calls Tryz.prog 191 #[.pointer none] w fun e w' =>e=.returned (.pointer (some ⟨w.heap.size,0,none⟩))∧w'=w.alloc (.cells #[.slice none 0 0,.slice none 0 0] 149):=by
 go_enter Tryz.func191,Tryz.ntmps191
 go_wp2
 go_ret
 exact ⟨rfl,rfl⟩
theorem zhK (w:World) (xs ys:Array Value):Blk ((w.alloc (.cells xs 113)).alloc (.cells ys 113)).drew w.heap.size xs 113∧Blk ((w.alloc (.cells xs 113)).alloc (.cells ys 113)).drew (w.heap.size+1) ys 113∧Below w.heap.size w ((w.alloc (.cells xs 113)).alloc (.cells ys 113)).drew:=by
 refine ⟨(Blk.new w xs 113).alloc _, ?_,(((Below.refl w.heap.size w).alloc (Nat.le_refl _) _).alloc (by simp) _).drew⟩
 have:=Blk.new (w.alloc (.cells xs 113)) ys 113
 rw [World.size_alloc] at this
 exact this
theorem zeX (w:World):Grows ((w.alloc (.cells #[.slice none 0 0,.slice none 0 0] 149)).alloc (.cells #[.slice none 0 0,.slice none 0 0] 149)).drew w.heap.size w.heap.size []∧Grows ((w.alloc (.cells #[.slice none 0 0,.slice none 0 0] 149)).alloc (.cells #[.slice none 0 0,.slice none 0 0] 149)).drew (w.heap.size+1) w.heap.size []∧Below w.heap.size w ((w.alloc (.cells #[.slice none 0 0,.slice none 0 0] 149)).alloc (.cells #[.slice none 0 0,.slice none 0 0] 149)).drew:=by
 have b:Blk ((w.alloc (.cells #[.slice none 0 0,.slice none 0 0] 149)).alloc (.cells #[.slice none 0 0,.slice none 0 0] 149)).drew (w.heap.size+1) #[.slice none 0 0,.slice none 0 0] 149:=by
  have:=Blk.new (w.alloc (.cells #[.slice none 0 0,.slice none 0 0] 149)) #[.slice none 0 0,.slice none 0 0] 149
  rw [World.size_alloc] at this
  exact this
 exact ⟨(zeY w _ rfl).below ((Below.refl _ _).alloc (Nat.le_refl _) _).drew,⟨⟨⟨_,_,b,World.ownsRow_nil _ _ _ _,World.ownsRow_nil _ _ _ _⟩,Nat.le_succ _⟩,fun _ =>b⟩,(((Below.refl w.heap.size w).alloc (Nat.le_refl _) _).alloc (by simp) _).drew⟩
def SomeAt (w:World) (p:Option Addr) (ys:List (Int × Int)):Prop:=(p=none∧ys=[])∨∃ C,p=some ⟨C,0,none⟩∧SetAt w C ys
theorem SomeAt.spread {w:World} {p:Option Addr} {ys:List (Int × Int)} (h:SomeAt w p ys):Spread ys:=by
 rcases h with ⟨_,rfl⟩ | ⟨C,_,h⟩
 ·exact ⟨fun x h =>by simp at h,fun i j x y _ h =>by simp at h⟩
 ·exact h.spread
theorem zhq {zs ys out:List (Int × Int)} {i j:Nat} (h:zhH zs ys i j out) (hi:i≤zs.length) (hj:j≤ys.length):out.length≤zs.length+ys.length:=by have:=h.len;omega
set_option maxRecDepth 100000 in
set_option maxHeartbeats 4000000 in
theorem zm8 (B:Nat) (p:Option Addr) (zs ys:List (Int × Int)) (hz:zs.length≤10000) (hy:ys.length≤10000) (w:World) (hs:SetAt w B zs) (ht:SomeAt w p ys) :
  Calls Tryz.prog 192 #[.pointer (some ⟨B,0,none⟩),.pointer p] w fun e w' => ∃ (B' lo0:Nat) (us:List (Int × Int)),e=.returned (.pointer (some ⟨B',0,none⟩))∧w.heap.size≤lo0∧Made w' B' lo0 us∧Spread us∧us.length≤zs.length+ys.length∧(∀ r,zal us r=(zal zs r && zal ys r))∧Below w.heap.size w w':=by
 have HS:=kz hs.spread
 have HY:=kz ht.spread
 have HT:=kz ht
 obtain ⟨⟨a,ca,b,cb,hb0,hp,_⟩,_,_⟩:=hs
 have HP:=kz hp
 have HBk:=kz hb0
 clear hp hb0 ht
 go_enter Tryz.func192,Tryz.ntmps192
 go_wp2
 rename_i K1 hK1
 have key:∀ (w1:World) (a2:Act) (Bm:Nat) (oa:Option Addr) (oc:Nat),(∃ U:Nat→Value,a2 = { tmps:=#[.pointer (some ⟨B,0,none⟩),.pointer p,U 2,U 3,.pointer none,.pointer (some ⟨Bm,0,none⟩),.slice oa ys.length oc,U 7,U 8,U 9,U 10,U 11,U 12,U 13,U 14,U 15,U 16,U 17,U 18,U 19,U 20,U 21,U 22,U 23,U 24,U 25,U 26,U 27,U 28,U 29,U 30,U 31,U 32,U 33,U 34,U 35,U 36,U 37,U 38,U 39,U 40,U 41,U 42,U 43,U 44,U 45,U 46,U 47,U 48,U 49,U 50,U 51,U 52,U 53,U 54,U 55,U 56,U 57,U 58,U 59,U 60,U 61,U 62,U 63,U 64,U 65,U 66,U 67,U 68,U 69],defers := [] })→Grows w1 Bm w.heap.size []→Below w.heap.size w w1→RowP w oa ys→K1 a2 w1:=by
  rintro w1 a2 Bm oa oc ⟨U,rfl⟩ hG hB hQ
  have HG1:=kz hG
  have HB1:=kz hB
  have HQ:=kz hQ
  apply hK1
  clear hK1 hG hB hQ HT
  go_wp2
  go_loopw [7,8] (fun iv jv wr => ∃ (i j:Nat) (out:List (Int × Int)),iv=.int .i64 i∧jv=.int .i64 j∧i≤zs.length∧j≤ys.length∧Hz (zhH zs ys i j out)∧Hz (Grows wr Bm w.heap.size out)∧Hz (Below w.heap.size w wr)) (fun iv jv _ =>zs.length+ys.length - ((intOf iv).toNat+(intOf jv).toNat))
  case atStart =>exact ⟨0,0,[],rfl,rfl,by omega,by omega,kz (ziM zs ys),HG1,HB1⟩
  case round =>
   obtain ⟨i,j,out,rfl,rfl,hi,hj,HI,HG,HB⟩:=hrel
   have d0:=((oz HBk).below (oz HB) (oz HBk).lt).cell 0
   clear HG1 HB1
   by_cases hin:i < zs.length
   ·have hi1:(i:Int) < (zs.length:Int):=by omega
    have hi2:((i:Nat):Int).toNat=i:=by omega
    by_cases hjn:j < ys.length
    ·have hj1:(j:Int) < (ys.length:Int):=by omega
     have hj2:((j:Nat):Int).toNat=j:=by omega
     obtain ⟨x,hx⟩:∃ x,zs[i]?=some x:=⟨_,List.getElem?_eq_getElem hin⟩
     obtain ⟨y,hy'⟩:∃ y,ys[j]?=some y:=⟨_,List.getElem?_eq_getElem hjn⟩
     obtain ⟨g,o,rfl,hg,hc⟩:=oz HP (by omega)
     obtain ⟨g',o',rfl,hg',hc'⟩:=oz HQ (by omega)
     have c0:=((oz HB).cell (p:=⟨g,o+i*2,none⟩) hg).trans (hc i x hx).1
     have c1:=((oz HB).cell (p:=⟨g,o+i*2+1,none⟩) hg).trans (hc i x hx).2
     have e0:=((oz HB).cell (p:=⟨g',o' + j*2,none⟩) hg').trans (hc' j y hy').1
     have e1:=((oz HB).cell (p:=⟨g',o' + j*2+1,none⟩) hg').trans (hc' j y hy').2
     have HLa:=kz (zge (oz HS) (oz HY) (oz HI) hx hy')
     have HLl:=kz (fun h =>zj7 (oz HS) (oz HY) (oz HI) hx hy' h)
     have HLr:=kz (fun h =>ziN (oz HS) (oz HY) (oz HI) hx hy' h)
     have hol:out.length≤1000000:=by have:=zhq (oz HI) hi hj;omega
     have HSo:=kz (oz HI).spread
     obtain ⟨al,ah⟩:=x
     obtain ⟨bl,bh⟩:=y
     simp only at c0 c1 e0 e1
     clear hc hc' hx hy' HP HQ HS HY HI
     have c01:=ze6 c0
     have c02:=zil c0
     have c11:=ze6 c1
     have c12:=zil c1
     have e01:=ze6 e0
     have e02:=zil e0
     have e11:=ze6 e1
     have e12:=zil e1
     have d01:=ze6 d0
     have d02:=zil d0
     go_wp2_with fail
     rename_i K2 hK2
     have key2:∀ (w2:World) (a2:Act) (Pa Pb:Nat),(∃ V:Nat→Value,a2 = { tmps:=#[.pointer (some ⟨B,0,none⟩),.pointer p,U 2,U 3,.pointer none,.pointer (some ⟨Bm,0,none⟩),.slice (some ⟨g',o',none⟩) ys.length oc,.int .i64 i,.int .i64 j,.pointer (some ⟨Pa,0,none⟩),.pointer (some ⟨Pb,0,none⟩),V 11,U 12,U 13,U 14,U 15,U 16,U 17,U 18,V 19,V 20,V 21,V 22,V 23,V 24,V 25,V 26,V 27,V 28,V 29,V 30,V 31,V 32,V 33,V 34,V 35,V 36,V 37,V 38,V 39,V 40,V 41,V 42,V 43,V 44,V 45,V 46,V 47,V 48,V 49,V 50,V 51,V 52,V 53,V 54,V 55,V 56,V 57,V 58,V 59,V 60,V 61,V 62,V 63,V 64,V 65,V 66,V 67,V 68,U 69],defers := [] })→Blk w2 Pa #[.int .i32 al,.int .i32 ah] 113→Blk w2 Pb #[.int .i32 bl,.int .i32 bh] 113→wr.heap.size≤Pa→wr.heap.size≤Pb→Below wr.heap.size wr w2→K2 a2 w2:=by
      rintro w2 a2 Pa Pb ⟨V,rfl⟩ ha hb hpa hpb hB2
      apply hK2
      clear hK2 c0 c1 e0 e1 c01 c02 c11 c12 e01 e02 e11 e12 d0 d01 d02
      have a0:=ha.cell 0
      have a1:=ha.cell 1
      have b0:=hb.cell 0
      have b1:=hb.cell 1
      have HA:=kz ha
      have HBb:=kz hb
      have HB2:=kz hB2
      have HPa:=kz hpa
      have HPb:=kz hpb
      clear ha hb hB2 hpa hpb
      have HX:=kz (Blk.new w2 #[.int .i32 (max al bl),.int .i32 (min ah bh)] 113)
      have HAl:=kz ((Below.refl w2.heap.size w2).alloc (Nat.le_refl _) (.cells #[.int .i32 (max al bl),.int .i32 (min ah bh)] 113))
      have HFa:=kz (fun w =>zez (max al bl,min ah bh) w)
      by_cases hf:min ah bh < max al bl
      ·have hd:decide (min ah bh < max al bl)=true:=decide_eq_true hf
       have HM:Hz (zgE out (al,ah) (bl,bh)=out):=kz (by unfold zgE zdN;rw [if_neg];simp only;omega)
       rw [oz HM] at HLl HLr
       clear hf
       go_wp2_with fail
       refine (oz HFa _).mono ?_
       rintro e w3 ⟨rfl,hb3⟩
       have hb23:=(oz HAl).trans (hb3.mono (oz HAl).size)
       have HB3:=kz ((oz HB2).trans (hb23.mono (oz HB2).size))
       have f1:=((oz HA).below hb23 (oz HA).lt).cell 1
       have g1:=((oz HBb).below hb23 (oz HBb).lt).cell 1
       have HG3:=kz ((oz HG).below (oz HB3))
       have HB4:=kz ((oz HB).trans ((oz HB3).mono (oz HB).size))
       clear hb3 hb23 a0 a1 b0 b1
       by_cases hlt:ah < bh
       ·have HN:=kz (oz HLl hlt)
        go_wp2
        go_roundw
        case rel =>exact ⟨i+1,j,out,by congr 1,rfl,by omega,by omega,HN,HG3,HB4⟩
        case measure =>simp [intOf];omega
       ·have HN:=kz (oz HLr (by omega))
        go_wp2
        go_roundw
        case rel =>exact ⟨i,j+1,out,rfl,by congr 1,by omega,by omega,HN,HG3,HB4⟩
        case measure =>simp [intOf];omega
      ·have hd:decide (min ah bh < max al bl)=false:=decide_eq_false hf
       have HM:Hz (zgE out (al,ah) (bl,bh)=zgR out (max al bl,min ah bh)):=kz (by unfold zgE zdN;rw [if_pos];simp only;omega)
       have HE:Hz (zaW (max al bl,min ah bh)=true):=kz (oz HLa).2.2.2
       rw [oz HM] at HLl HLr
       clear hf
       go_wp2_with fail
       refine (oz HFa _).mono ?_
       rintro e w3 ⟨rfl,hb3⟩
       have hb23:=(oz HAl).trans (hb3.mono (oz HAl).size)
       have HB3:=kz ((oz HB2).trans (hb23.mono (oz HB2).size))
       have hA3:=(oz HA).below hb23 (oz HA).lt
       have hB3:=(oz HBb).below hb23 (oz HBb).lt
       have hX3:=(oz HX).below hb3 (oz HX).lt
       have HA3:=kz hA3
       have HBb3:=kz hB3
       have x0:=hX3.cell 0
       have x1:=hX3.cell 1
       have HG3:=kz ((oz HG).below (oz HB3))
       have HB4:=kz ((oz HB).trans ((oz HB3).mono (oz HB).size))
       have HLy:=kz (ziO Bm w.heap.size out (max al bl,min ah bh) hol (oz HSo) (oz HE) w3 (oz HG3) (oz HB4).size)
       clear hb3 hb23 a0 a1 b0 b1 hA3 hB3 hX3
       go_wp2_with fail
       refine (oz HLy).mono ?_
       rintro e w5 ⟨⟨r,rfl⟩,hG5,hb5,hfr⟩
       have f1:=(zgV (oz HG).1 (oz HB3) (oz HA3) (oz HPa) hfr).cell 1
       have g1:=(zgV (oz HG).1 (oz HB3) (oz HBb3) (oz HPb) hfr).cell 1
       have HG5:=kz hG5
       have HB5:=kz ((oz HB4).trans hb5)
       clear hG5 hb5 hfr x0 x1
       by_cases hlt:ah < bh
       ·have HN:=kz (oz HLl hlt)
        go_wp2
        go_roundw
        case rel =>exact ⟨i+1,j,_,by congr 1,rfl,by omega,by omega,HN,HG5,HB5⟩
        case measure =>simp [intOf];omega
       ·have HN:=kz (oz HLr (by omega))
        go_wp2
        go_roundw
        case rel =>exact ⟨i,j+1,_,rfl,by congr 1,by omega,by omega,HN,HG5,HB5⟩
        case measure =>simp [intOf];omega
     have KEY2:=kz key2
     clear key2 hK2
     go_big_region
     ·have hP:=zhK wr #[.int .i32 al,.int .i32 ah] #[.int .i32 bl,.int .i32 bh]
      exact oz KEY2 _ _ wr.heap.size (wr.heap.size+1) (zaS rfl) hP.1 hP.2.1 (by omega) (by omega) hP.2.2
     ·have hP:=zhK wr #[.int .i32 bl,.int .i32 bh] #[.int .i32 al,.int .i32 ah]
      exact oz KEY2 _ _ (wr.heap.size+1) wr.heap.size (zaS rfl) hP.2.1 hP.1 (by omega) (by omega) hP.2.2
    ·have hj1:¬ (j:Int) < (ys.length:Int):=by omega
     have HE:=kz (zh4 (oz HI) (.inr (by omega)))
     have HLn:=kz (zhq (oz HI) hi hj)
     go_wp2
     go_ret
     exact ⟨Bm,rfl,w.heap.size,Nat.le_refl _,out,(oz HG).1,(oz HI).spread,oz HLn,oz HE,oz HB⟩
   ·have hi1:¬ (i:Int) < (zs.length:Int):=by omega
    have HE:=kz (zh4 (oz HI) (.inl (by omega)))
    have HLn:=kz (zhq (oz HI) hi hj)
    go_wp2
    go_ret
    exact ⟨Bm,rfl,w.heap.size,Nat.le_refl _,out,(oz HG).1,(oz HI).spread,oz HLn,oz HE,oz HB⟩
 have KEY:=kz key
 clear key hK1
 have hmx2:Tryz.prog.follows .mixedOrders=true:=by kernel_rfl
 rcases oz HT with ⟨rfl,rfl⟩ | ⟨C,rfl,hC⟩
 ·have HSo:=kz (fun w =>zhe w)
  have d0:=(Blk.new w #[.slice none 0 0,.slice none 0 0] 149).cell 0
  have d1:=ze6 d0
  have d2:∀ o:Obj,((w.alloc o).alloc (.cells #[.slice none 0 0,.slice none 0 0] 149)).cell? ⟨w.heap.size+1,0,none⟩=some (.slice none 0 0):=fun o =>by
   have:=(Blk.new (w.alloc o) #[.slice none 0 0,.slice none 0 0] 149).cell 0
   rw [World.size_alloc] at this
   exact this
  go_region_law (go_simp;refine (oz HSo _).mono ?_;rintro e w2 ⟨rfl,rfl⟩)
  all_goals first
   | exact oz KEY _ _ w.heap.size none 0 (zaS rfl) (zeX w).1 (zeX w).2.2 (fun h =>by simp at h)
   | exact oz KEY _ _ (w.heap.size+1) none 0 (zaS rfl) (zeX w).2.1 (zeX w).2.2 (fun h =>by simp at h)
 ·obtain ⟨⟨c,cc,d,cd,hc0,hq,_⟩,_,_⟩:=hC
  have HQ:=kz hq
  have HSo:=kz (fun w =>zhf C w)
  have d0:=hc0.cell 0
  have d1:=ze6 d0
  clear hq hc0
  go_region_law (go_simp;refine (oz HSo _).mono ?_;rintro e w2 ⟨rfl,rfl⟩)
  all_goals exact oz KEY _ _ w.heap.size _ _ (zaS rfl) ((zeY w _ rfl).below (Below.refl _ _).drew) ((Below.refl _ w).alloc (Nat.le_refl _) _).drew (oz HQ)
end Go.Proofs.YtmemedpoaocdkaaGreat
namespace Go.Proofs.YtmemedpoaocdkaaGreat
open Go.RowKit Go.Shelf
set_option linter.unusedVariables false
set_option linter.unusedSimpArgs false
theorem zgx (W:World) (lo:Nat) (v:Value) (xs ys:List (Int × Int)) (b:Option Addr) (cb:Nat) (hx:xs.length≤1000000) (hy:ys.length≤1000000) (hv:W.ownsRow lo 113 2 v xs.length (zc0 xs)) (hr:RowP W b ys) (hlo:lo≤W.heap.size) :
  ∃ v1 W1,(Builtin.append_ #[23,23] 23 #[v,.slice b ys.length cb]).run Tryz.prog W=.ok v1 W1∧W1.ownsRow lo 113 2 v1 (xs++ys).length (zc0 (xs++ys))∧W.grownBy W1 v.ownBlock:=by
 obtain ⟨iP,hi0,hi1,hi2,hi3⟩:=info_parts zlw
 have hcells:∀ p,b=some p→∀ j u,(zc0 ys)[j]?=some u→W.cell? (p.add j)=some u:=fun p hp j u hu =>by
  have hl:=(List.getElem?_eq_some_iff.1 hu).1
  rw [zbx] at hl
  obtain ⟨g,o,h,hg,hc⟩:=hr (by omega)
  rw [hp] at h
  cases h
  rw [zdA]
  exact zgZ hc j u hu
 cases b with
 | none =>
  have h0:ys=[]:=by
   by_cases e:0 < ys.length
   ·obtain ⟨g,o,h,_⟩:=hr e;cases h
   ·exact List.eq_nil_of_length_eq_zero (by omega)
  subst h0
  refine ⟨v,W, ?_,by simpa using hv,⟨rfl,rfl,rfl,Nat.le_refl _,fun _ _ _ =>rfl⟩⟩
  rcases hv.2 with ⟨rfl,_⟩ | ⟨g,cap,cur,rfl,_,hg,h1,_⟩
  ·simp [Builtin.append_,run_underlying Tryz.underlying23,sizeOf,typeInfo,hi0,Builtin.lenOf,Builtin.firstCells,loadCells,loadCellsFrom]
  ·simp [Builtin.append_,run_underlying Tryz.underlying23,sizeOf,typeInfo,hi0,Builtin.lenOf,Builtin.firstCells,loadCells,loadCellsFrom,h1,storeCells]
 | some p =>
  obtain ⟨v2,w2,hr2,ho2,hg2,_⟩:=run_append_own (P:=Tryz.prog) W lo 23 23 113 iP (.agg #[.int .i32 0,.int .i32 0]) 2 8 Tryz.underlying23 hi0 hi1 hi2 hi3 rfl (by decide) v xs.length (zc0 xs) hv p ys.length cb (zc0 ys) (zbx ys) (hcells p rfl) (zfT ys) (by unfold maxLen;omega) (by omega) hlo
  exact ⟨v2,w2,hr2,by rw [zdL,List.length_append];exact ho2,hg2⟩
set_option maxRecDepth 100000 in
set_option maxHeartbeats 2000000 in
theorem zlA (n:Nat) (hn:n≤2000000) (w:World):Calls Tryz.prog 203 #[.slice none 0 0,.int .i64 n] w fun e w' => ∃ v,e=.returned v∧w'.ownsRow w.heap.size 113 2 v 0 []∧Below w.heap.size w w':=by
 by_cases h0:0 < n
 ·obtain ⟨i0,hi,hz0,hz1,hz2⟩:=info_parts zlw
  have kzr:=Lib.run_append_nil_zeros (P:=Tryz.prog) w 23 3 23 113 i0 (.agg #[.int .i32 0,.int .i32 0]) .i64 .i64 Tryz.underlying23 Tryz.underlying3 hi hz0 n h0 (by rw [hz1];omega) (by omega) (by rw [hz2];omega)
  have hge:=grownCap_ge w n 0 113
  have hle:=grownCap_le_maxLen w n 0 113 (by unfold maxLen;omega)
  have hcz:∀ m,(Builtin.zeroCells (Value.agg #[.int .i32 0,.int .i32 0]).cells m).size=2*m:=fun m =>by rw [size_zeroCells];simp [Value.cells];omega
  have hsz:(Builtin.zeroCells (Value.agg #[.int .i32 0,.int .i32 0]).cells n++Builtin.zeroCells (Value.agg #[.int .i32 0,.int .i32 0]).cells (grownCap w n 0 113 - n)).size=2*grownCap w n 0 113:=by rw [Array.size_append,hcz,hcz];omega
  generalize Builtin.zeroCells (Value.agg #[.int .i32 0,.int .i32 0]).cells n++Builtin.zeroCells (Value.agg #[.int .i32 0,.int .i32 0]).cells (grownCap w n 0 113 - n)=cs at *
  generalize grownCap w n 0 113=cap at *
  have h1:(0:Int) < (n:Int):=by omega
  have h2:(n:Int)≤4194304:=by omega
  have HSZ:=kz hsz
  have hcap:(0:Int)≤(cap:Int):=by omega
  have HLE:=kz hle
  have HGE:=kz hge
  clear hi hz0 hz1 hz2 hcz hsz hle hge
  go_enter Tryz.func203,Tryz.ntmps203
  go_wp2_with (at_builtin;refine Lib.wpList_append_run _ rfl _ _ 23 3 rfl (.slice none 0 0) (.int .i64 n) rfl rfl _ _ kzr ?_)
  go_ret
  refine ⟨_,rfl,⟨by simp,.inr ⟨w.heap.size,cap,cs,rfl,Nat.le_refl _,World.alloc_heap_new w.drew _,by omega,oz HLE,by rw [oz HSZ];omega,by simp⟩⟩,((Below.refl _ _).drew).alloc (Nat.le_refl _) _⟩
 ·obtain rfl:n=0:=by omega
  clear h0 hn
  go_enter Tryz.func203,Tryz.ntmps203
  go_wp2
  go_ret
  exact ⟨_,rfl,World.ownsRow_nil _ _ _ _,Below.refl _ _⟩
set_option maxRecDepth 100000 in
set_option maxHeartbeats 4000000 in
theorem zgn (G:Nat) (a b:Option Addr) (c1 c2:Nat) (xs ys:List (Int × Int)) (hx:xs.length≤1000000) (hy:ys.length≤1000000) (w:World) (hB:Blk w G #[.slice a xs.length c1,.slice b ys.length c2] 23) (h1:RowP w a xs) (h2:RowP w b ys) :
  Calls Tryz.prog 190 #[.slice (some ⟨G,0,none⟩) 2 2] w fun e w' => ∃ v,e=.returned v∧w'.ownsRow w.heap.size 113 2 v (xs++ys).length (zc0 (xs++ys))∧Below w.heap.size w w':=by
 have d0:=hB.cell 0
 have d1:=hB.cell 1
 have HBk:=kz hB
 have H1:=kz h1
 have H2:=kz h2
 have hxi:(xs.length:Int)≤1000000:=by omega
 have hyi:(ys.length:Int)≤1000000:=by omega
 clear hB h1 h2
 have hgr:=zlA (xs.length+ys.length) (by omega)
 rw [show ((xs.length+ys.length:Nat):Int)=(xs.length:Int)+(ys.length:Int) by omega] at hgr
 have HG:=kz hgr
 have hs1:¬ (xs.length:Int) < 0:=by omega
 have hs2:¬ (xs.length:Int)+(ys.length:Int) < 0:=by omega
 clear hgr
 go_enter Tryz.func190,Tryz.ntmps190
 go_wp2_with fail
 refine wp_loop_rounds 3 ?_
 rw [rounds_succ]
 go_wp2_with fail
 rw [rounds_succ]
 go_wp2_with fail
 rw [rounds_succ]
 go_wp2_with fail
 refine (oz HG _).mono ?_
 rintro e w1 ⟨v,rfl,hown,hb⟩
 have hlt1:=hb.size
 have K1:=(oz H1).below hb
 obtain ⟨v2,w2,hr2,ho2,hg2⟩:=zgx w1 w.heap.size v [] xs a c1 (by simp) hx (show w1.ownsRow w.heap.size 113 2 v 0 [] from hown) K1 hlt1
 rw [List.nil_append] at ho2
 have hb2:Below w.heap.size w w2:=hb.grown hg2 hlt1 (fun k hk =>(hown.lt k hk).1)
 have hBk:=(oz HBk).below hb (oz HBk).lt
 clear d0 d1
 have d0:=hBk.cell 0
 have d1:=hBk.cell 1
 have hBk2:=(oz HBk).below hb2 (oz HBk).lt
 have f1:=hBk2.cell 1
 have hlt2:=hb2.size
 have K2:=(oz H2).below hb2
 obtain ⟨v3,w3,hr3,ho3,hg3⟩:=zgx w2 w.heap.size v2 xs ys b c2 hx hy ho2 K2 hlt2
 have hb3:Below w.heap.size w w3:=hb2.grown hg3 hlt2 (fun k hk =>(ho2.lt k hk).1)
 have HE:=kz ho3
 have HBE:=kz hb3
 have HR2:=kz hr2
 have HR3:=kz hr3
 clear hown hb hBk K1 hr2 ho2 hg2 hb2 hBk2 K2 hr3 ho3 hg3 hb3 hs1 hs2 HG
 go_wp2_with fail
 refine wp_loop_rounds 3 ?_
 rw [rounds_succ]
 go_wp2_with (at_builtin;refine Lib.wpList_append_run _ rfl _ _ 23 23 rfl v (.slice a xs.length c1) rfl rfl v2 w2 (oz HR2) ?_)
 rw [rounds_succ]
 go_wp2_with (at_builtin;refine Lib.wpList_append_run _ rfl _ _ 23 23 rfl v2 (.slice b ys.length c2) rfl rfl v3 w3 (oz HR3) ?_)
 rw [rounds_succ]
 go_wp2
 go_ret
 exact ⟨_,rfl,oz HE,oz HBE⟩
end Go.Proofs.YtmemedpoaocdkaaGreat
namespace Go.Proofs.YtmemedpoaocdkaaGreat
open Go.RowKit Go.Shelf
set_option linter.unusedVariables false
theorem zj0 {zs ys:List (Int × Int)} (h:Spread zs) (g:Spread ys):za0 (zs++ys):=fun x hx =>by
 rcases List.mem_append.1 hx with e | e
 ·exact h.ends x e
 ·exact g.ends x e
set_option maxRecDepth 100000 in
set_option maxHeartbeats 4000000 in
theorem zkw (B:Nat) (p:Option Addr) (zs ys:List (Int × Int)) (hz:zs.length≤10000) (hy:ys.length≤10000) (w:World) (hs:SetAt w B zs) (ht:SomeAt w p ys) :
  Calls Tryz.prog 149 #[.pointer (some ⟨B,0,none⟩),.pointer p] w fun e w' => ∃ (B' lo0:Nat) (us:List (Int × Int)),e=.returned (.pointer (some ⟨B',0,none⟩))∧w.heap.size≤lo0∧Made w' B' lo0 us∧Spread us∧us.length≤zs.length+ys.length∧(∀ r,zal us r=(zal zs r || zal ys r))∧Below w.heap.size w w':=by
 have hRt:=zj0 hs.spread ht.spread
 obtain ⟨⟨a,ca,b,cb,hb0,hp,ha⟩,hsp,hl⟩:=hs
 have d0:=hb0.cell 0
 have d1:=ze6 d0
 have hmx2:Tryz.prog.follows .mixedOrders=true:=by kernel_rfl
 have hmem:∀ r,zal (zs++ys) r=(zal zs r || zal ys r):=zbt zs ys
 have hlen:(zs++ys).length=zs.length+ys.length:=List.length_append
 rcases ht with ⟨rfl,rfl⟩ | ⟨C,rfl,hC⟩
 ·have HSo:=kz (fun w =>zhe w)
  have x0:=(Blk.new w #[.slice none 0 0,.slice none 0 0] 149).cell 0
  obtain ⟨W1,hW1⟩:∃ W1,W1=((w.alloc (.cells #[.slice none 0 0,.slice none 0 0] 149)).alloc (.cells #[.slice a zs.length ca,.slice none 0 0] 23)).drew:=⟨_,rfl⟩
  have hb1:Below w.heap.size w W1:=by rw [hW1];exact (((Below.refl w.heap.size w).alloc (Nat.le_refl _) _).alloc (by simp) _).drew
  have hG:Blk W1 (w.heap.size+1) #[.slice a zs.length ca,.slice none 0 0] 23:=by
   have:=Blk.new (w.alloc (.cells #[.slice none 0 0,.slice none 0 0] 149)) #[.slice a zs.length ca,.slice none 0 0] 23
   rw [World.size_alloc] at this
   rw [hW1]
   exact this
  have hCo:=zgn (w.heap.size+1) a none ca 0 zs [] (by omega) (by simp) W1 hG (hp.below hb1) (fun h =>by simp at h)
  generalize zs++[]=us at *
  have HCo:=kz hCo
  have HB1:=kz hb1
  have HRt:=kz hRt
  have HMe:=kz hmem
  have HLe:=kz hlen
  rw [hW1] at HCo
  clear hp ha hsp hb0 hl hb1 hG hCo hRt hmem hlen
  go_enter Tryz.func149,Tryz.ntmps149
  go_wp2_with fail
  go_region_law (first
   | (go_simp;refine (oz HSo _).mono ?_;rintro e w2 ⟨rfl,rfl⟩)
   | (go_simp;refine (oz HCo).mono ?_;rintro e w2 ⟨v,rfl,hown,hb⟩;obtain ⟨av,cv,rfl,hrow,_,_⟩:=zhl hown;have HRow:=kz hrow;have HBc:=kz hb;clear hown hrow hb)
   | (go_simp;refine (zhn av cv us (by have:=oz HLe;simp at this;omega) (oz HRt) _ (oz HRow)).mono ?_;rintro e w3 ⟨B',lo0,os,rfl,h1,h2,h3,h4,h5,h6⟩;have HE:=kz (And.intro h1 (And.intro h2 (And.intro h3 (And.intro h4 (And.intro h5 h6)))));clear h1 h2 h3 h4 h5 h6))
  all_goals
   rw [← hW1] at HBc
   go_wp2
   go_ret
   obtain ⟨h1,h2,h3,h4,h5,h6⟩:=oz HE
   have s1:=(oz HB1).size
   have s2:=(oz HBc).size
   have hle:=oz HLe
   have hle2:us.length=zs.length:=by simpa using hle
   exact ⟨B',rfl,lo0,by omega,os,h2,h3,by first | omega | (simp;omega),fun r =>by rw [h5 r,oz HMe r],(oz HB1).trans (((oz HBc).trans (h6.mono s2)).mono s1)⟩
 ·obtain ⟨⟨c,cc,d,cd,hc0,hq,_⟩,_,hl'⟩:=hC
  have e0:=hc0.cell 0
  have e1:=ze6 e0
  have HSo:=kz (fun w =>zhf C w)
  obtain ⟨W1,hW1⟩:∃ W1,W1=(w.alloc (.cells #[.slice a zs.length ca,.slice c ys.length cc] 23)).drew:=⟨_,rfl⟩
  have hb1:Below w.heap.size w W1:=by rw [hW1];exact ((Below.refl w.heap.size w).alloc (Nat.le_refl _) _).drew
  have hG:Blk W1 w.heap.size #[.slice a zs.length ca,.slice c ys.length cc] 23:=by
   rw [hW1]
   exact Blk.new w #[.slice a zs.length ca,.slice c ys.length cc] 23
  have hCo:=zgn w.heap.size a c ca cc zs ys (by omega) (by omega) W1 hG (hp.below hb1) (hq.below hb1)
  generalize zs++ys=us at *
  have HCo:=kz hCo
  have HB1:=kz hb1
  have HRt:=kz hRt
  have HMe:=kz hmem
  have HLe:=kz hlen
  rw [hW1] at HCo
  clear hp ha hsp hb0 hl hb1 hG hCo hRt hmem hlen hc0 hq hl'
  go_enter Tryz.func149,Tryz.ntmps149
  go_wp2_with fail
  go_region_law (first
   | (go_simp;refine (oz HSo _).mono ?_;rintro e w2 ⟨rfl,rfl⟩)
   | (go_simp;refine (oz HCo).mono ?_;rintro e w2 ⟨v,rfl,hown,hb⟩;obtain ⟨av,cv,rfl,hrow,_,_⟩:=zhl hown;have HRow:=kz hrow;have HBc:=kz hb;clear hown hrow hb)
   | (go_simp;refine (zhn av cv us (by have:=oz HLe;omega) (oz HRt) _ (oz HRow)).mono ?_;rintro e w3 ⟨B',lo0,os,rfl,h1,h2,h3,h4,h5,h6⟩;have HE:=kz (And.intro h1 (And.intro h2 (And.intro h3 (And.intro h4 (And.intro h5 h6)))));clear h1 h2 h3 h4 h5 h6))
  all_goals
   rw [← hW1] at HBc
   go_wp2
   go_ret
   obtain ⟨h1,h2,h3,h4,h5,h6⟩:=oz HE
   have s1:=(oz HB1).size
   have s2:=(oz HBc).size
   have hle:=oz HLe
   exact ⟨B',rfl,lo0,by omega,os,h2,h3,by omega,fun r =>by rw [h5 r,oz HMe r],(oz HB1).trans (((oz HBc).trans (h6.mono s2)).mono s1)⟩
theorem SetAt.empty {w:World} {B:Nat} (h:Blk w B #[.slice none 0 0,.slice none 0 0] 149):SetAt w B []:=⟨⟨none,0,none,0,h,fun h =>by simp at h,fun h =>by simp at h⟩,⟨fun x h =>by simp at h,fun i j x y _ h =>by simp at h⟩,by simp⟩
theorem zmM (p:Option Addr) (ys:List (Int × Int)) (w:World) (ht:SomeAt w p ys):Calls Tryz.prog 191 #[.pointer p] w fun e w' => ∃ C,e=.returned (.pointer (some ⟨C,0,none⟩))∧SetAt w' C ys∧Below w.heap.size w w':=by
 rcases ht with ⟨rfl,rfl⟩ | ⟨C,rfl,hC⟩
 ·exact (zhe w).mono fun e w' ⟨h1,h2⟩ =>⟨_,h1,by rw [h2];exact SetAt.empty (Blk.new w _ _),by rw [h2];exact (Below.refl _ _).alloc (Nat.le_refl _) _⟩
 ·exact (zhf C w).mono fun e w' ⟨h1,h2⟩ =>⟨_,h1,by rw [h2];exact hC,by rw [h2];exact Below.refl _ _⟩
theorem zlk (zs ys ns:List (Int × Int)) (h:∀ r,zal ns r=(zan r && !zal ys r)) (r:Int):(zal zs r && zal ns r)=(zal zs r && !zal ys r):=by
 rw [h r]
 cases hz:zal zs r with
 | false =>rfl
 | true =>rw [((zay _ _).1 hz).2];rfl
set_option maxRecDepth 100000 in
set_option maxHeartbeats 4000000 in
theorem zh1 (B:Nat) (p:Option Addr) (zs ys:List (Int × Int)) (hz:zs.length≤5000) (hy:ys.length≤5000) (w:World) (hs:SetAt w B zs) (ht:SomeAt w p ys) :
  Calls Tryz.prog 150 #[.pointer (some ⟨B,0,none⟩),.pointer p] w fun e w' => ∃ (B' lo0:Nat) (us:List (Int × Int)),e=.returned (.pointer (some ⟨B',0,none⟩))∧w.heap.size≤lo0∧Made w' B' lo0 us∧Spread us∧us.length≤zs.length+ys.length+1∧(∀ r,zal us r=(zal zs r && !zal ys r))∧Below w.heap.size w w':=by
 have HS:=kz hs
 have HSo:=kz (zmM p ys w ht)
 clear hs ht
 go_enter Tryz.func150,Tryz.ntmps150
 go_wp2_with fail
 refine (oz HSo).mono ?_
 rintro e w1 ⟨C,rfl,hC,hb1⟩
 have HC:=kz hC
 have HB1:=kz hb1
 have HS1:=kz ((oz HS).below hb1)
 clear hC hb1
 go_wp2_with fail
 refine (zov C ys (by omega) w1 (oz HC)).mono ?_
 rintro e w2 ⟨D,lo1,ns,rfl,h1,h2,h3,h4,h5,h6⟩
 have HD:=kz (h2.set h3 (by omega))
 have HB2:=kz ((oz HB1).trans (h6.mono (oz HB1).size))
 have HS2:=kz ((oz HS1).below h6)
 have HN:=kz h5
 have hnl:ns.length≤5001:=by omega
 have HNL:=kz h4
 clear h1 h2 h3 h4 h5 h6
 go_wp2_with fail
 refine (zm8 B _ zs ns (by omega) (by omega) w2 (oz HS2) (.inr ⟨D,rfl,oz HD⟩)).mono ?_
 rintro e w3 ⟨B',lo0,us,rfl,h1,h2,h3,h4,h5,h6⟩
 have HE:=kz (And.intro h1 (And.intro h2 (And.intro h3 (And.intro h4 (And.intro h5 h6)))))
 clear h1 h2 h3 h4 h5 h6
 go_wp2
 go_ret
 obtain ⟨h1,h2,h3,h4,h5,h6⟩:=oz HE
 have s1:=(oz HB2).size
 have hle:=oz HNL
 exact ⟨B',lo0,us,rfl,by omega,h2,h3,by omega,fun r =>by rw [h5 r,zlk zs ys ns (oz HN) r],(oz HB2).trans (h6.mono s1)⟩
theorem zjw (a b:Int) (w:World):Calls Tryz.prog 168 #[.int .i64 a,.int .i64 b] w fun e w' =>e=.returned (.bool (decide (a < b)))∧w'=w:=by
 have ha:(a != a)=false:=by simp
 go_enter Tryz.func168,Tryz.ntmps168
 go_wp2_with go_in
 go_ret
 exact ⟨rfl,rfl⟩
def zfu (m:Nat) (F:Nat→Int) (k:Nat) (n:Int):Bool:=decide (k < m∧F k=n)
set_option maxRecDepth 100000 in
set_option maxHeartbeats 4000000 in
theorem ziz (p:Option Addr) (cap m:Nat) (F:Nat→Int) (hl:m≤1112064) (hr:∀ i j:Nat,i < j→j < m→F i < F j) (n:Int) (W:World) (hi:0 < m→∃ g o,p=some ⟨g,o,none⟩∧g < W.heap.size∧∀ j,j < m→W.cell? ⟨g,o+j,none⟩=some (.int .i64 (F j))) :
  Calls Tryz.prog 101 #[.slice p m cap,.int .i64 n] W fun e w' => ∃ k:Nat,e=.returned (.tuple #[.int .i64 k,.bool (zfu m F k n)])∧k≤m∧(∀ j,j < k→F j < n)∧(∀ j,k≤j→j < m→n≤F j)∧Below W.heap.size W w':=by
 have HI:=kz hi
 have HRS:=kz hr
 clear hi hr
 go_enter Tryz.func101,Tryz.ntmps101
 go_wp2
 go_loop [7,8] (fun i j => ∃ a b:Nat,a≤b∧b≤m∧i=.int .i64 a∧j=.int .i64 b∧Hz (∀ j,j < a→F j < n)∧Hz (∀ j,b≤j→j < m→n≤F j)) (fun i j =>(intOf j).toNat - (intOf i).toNat)
 case atStart =>exact ⟨0,m,by omega,Nat.le_refl _,rfl,rfl,kz (fun j hj =>by omega),kz (fun j h1 h2 =>by omega)⟩
 case round =>
  obtain ⟨a,b,hab,hb,rfl,rfl,H1,H2⟩:=hrel
  by_cases hlt:a < b
  ·have h1:(a:Int) < (b:Int):=by omega
   obtain ⟨g,o,rfl,hg,hc⟩:=oz HI (by omega)
   have ck:=hc ((a+b) / 2) (by omega)
   have HM:Hz (∀ j,j < (a+b) / 2→F j < F ((a+b) / 2)):=kz (fun j hj =>oz HRS j _ hj (by omega))
   have HM2:Hz (∀ j,(a+b) / 2 < j→j < m→F ((a+b) / 2) < F j):=kz (fun j hj h2 =>oz HRS _ j hj h2)
   obtain ⟨x,hx⟩:∃ x,F ((a+b) / 2)=x:=⟨_,rfl⟩
   rw [hx] at ck HM HM2
   have HX:=kz hx
   clear hx hc
   by_cases hxn:x < n
   ·have hd:decide (x < n)=true:=decide_eq_true hxn
    go_wp2_with (go_at_call 168;refine (zjw _ _ _).mono ?_;rintro e w' ⟨rfl,rfl⟩)
    go_round
    case rel =>
     refine ⟨(a+b) / 2+1,b,by omega,hb, ?_,rfl,kz (fun j hj =>?_),H2⟩
     ·congr 1
     ·by_cases e:j=(a+b) / 2
      ·subst e;rw [oz HX];exact hxn
      ·have:=oz HM j (by omega);omega
    case measure =>simp [intOf];omega
   ·have hd:decide (x < n)=false:=decide_eq_false hxn
    go_wp2_with (go_at_call 168;refine (zjw _ _ _).mono ?_;rintro e w' ⟨rfl,rfl⟩)
    go_round
    case rel =>
     refine ⟨a,(a+b) / 2,by omega,by omega,rfl, ?_,H1,kz (fun j hj h2 =>?_)⟩
     ·congr 1
     ·by_cases e:j=(a+b) / 2
      ·subst e;rw [oz HX];omega
      ·have:=oz HM2 j (by omega) h2;omega
    case measure =>simp [intOf];omega
  ·have h1:¬ (a:Int) < (b:Int):=by omega
   obtain rfl:a=b:=by omega
   by_cases hal:a < m
   ·obtain ⟨g,o,rfl,hg,hc⟩:=oz HI (by omega)
    have ck:=hc a hal
    have h2:(a:Int) < (m:Int):=by omega
    have h3:((a:Nat):Int).toNat=a:=by omega
    obtain ⟨x,hx⟩:∃ x,F a=x:=⟨_,rfl⟩
    rw [hx] at ck
    have HX:=kz hx
    clear hx hc
    by_cases hxn:x=n
    ·subst hxn
     have hxe:(x == x)=true:=by simp
     have HD:=kz (show zfu m F a x=true from decide_eq_true ⟨hal,oz HX⟩)
     go_wp2
     go_ret2
     exact ⟨a,by rw [oz HD];rfl,hb,oz H1,oz H2,Below.refl _ _⟩
    ·have hxe:(x == n)=false:=beq_eq_false_iff_ne.2 hxn
     have hxx:(x != x)=false:=by simp
     have HD:=kz (show zfu m F a n=false from decide_eq_false (fun h =>hxn ((oz HX).symm.trans h.2)))
     go_wp2_with go_in
     go_ret2
     exact ⟨a,by rw [oz HD];rfl,hb,oz H1,oz H2,Below.refl _ _⟩
   ·have h2:¬ (a:Int) < (m:Int):=by omega
    have HD:=kz (show zfu m F a n=false from decide_eq_false (fun h =>hal h.1))
    go_wp2
    go_ret2
    exact ⟨a,by rw [oz HD];rfl,hb,oz H1,oz H2,Below.refl _ _⟩
theorem ziw {zs:List (Int × Int)} (h:za0 zs):∀ i j:Nat,i < j→j < zs.length→total (zs.take i) < total (zs.take j):=by
 intro i j hij
 induction j with
 | zero =>omega
 | succ j ih =>
  intro hj
  obtain ⟨x,hx⟩:∃ x,zs[j]?=some x:=⟨_,List.getElem?_eq_getElem (by omega)⟩
  have hp:=h x (List.mem_of_getElem? hx)
  have:=zhc hp.1 hp.2
  rw [zdf hx,zeh]
  rcases Nat.lt_or_eq_of_le (show i≤j by omega) with a | a
  ·have:=ih a (by omega);omega
  ·subst a;omega
theorem zkd {zs:List (Int × Int)} (hR:za0 zs) {n:Int} (h0:0≤n) (h1:n < total zs) {k:Nat} (hk:k≤zs.length) (ha:∀ j,j < k→total (zs.take j) < n) (hb:∀ j,k≤j→j < zs.length→n≤total (zs.take j)) :
  ∃ (i:Nat) (x:Int × Int),(if zfu zs.length (fun j =>total (zs.take j)) k n then i=k else i+1=k)∧zs[i]?=some x∧total (zs.take i)≤n∧n < total (zs.take i)+zaH x:=by
 by_cases c:k < zs.length∧total (zs.take k)=n
 ·obtain ⟨x,hx⟩:∃ x,zs[k]?=some x:=⟨_,List.getElem?_eq_getElem c.1⟩
  have hp:=hR x (List.mem_of_getElem? hx)
  have:=zhc hp.1 hp.2
  exact ⟨k,x,by rw [show zfu zs.length (fun j =>total (zs.take j)) k n=true from decide_eq_true c];simp,hx,by omega,by omega⟩
 ·cases k with
  | zero =>
   exfalso
   by_cases l:0 < zs.length
   ·have:=hb 0 (Nat.le_refl _) l
    simp only [List.take_zero,total] at this
    exact c ⟨l,by simp only [List.take_zero,total];omega⟩
   ·have:zs=[]:=List.eq_nil_of_length_eq_zero (by omega)
    subst this
    simp [total] at h1
    omega
  | succ i =>
   obtain ⟨x,hx⟩:∃ x,zs[i]?=some x:=⟨_,List.getElem?_eq_getElem (by omega)⟩
   have ht:total (zs.take (i+1))=total (zs.take i)+zaH x:=by rw [zdf hx,zeh]
   refine ⟨i,x,by rw [show zfu zs.length (fun j =>total (zs.take j)) (i+1) n=false from decide_eq_false c];simp,hx,by have:=ha i (by omega);omega, ?_⟩
   by_cases l:i+1 < zs.length
   ·have:=hb (i+1) (Nat.le_refl _) l
    have:total (zs.take (i+1))≠n:=fun e =>c ⟨l,e⟩
    omega
   ·have:zs.take (i+1)=zs:=List.take_of_length_le (by omega)
    rw [this] at ht
    omega
set_option maxRecDepth 100000 in
set_option maxHeartbeats 4000000 in
theorem zqG (B:Nat) (zs:List (Int × Int)) (n:Int) (h0:0≤n) (h1:n < total zs) (w:World) (hs:SetAt w B zs) :
  Calls Tryz.prog 206 #[.pointer (some ⟨B,0,none⟩),.int .i64 n] w fun e w' =>e=.returned (.tuple #[.int .i32 (zbN zs n),.bool true])∧Below w.heap.size w w':=by
 have HS:=kz hs
 have HZ:=kz (zeI B zs w hs)
 have htb:=(zcM hs.spread.ends).2
 have hlen:=hs.len
 have htt:total zs≤1236686340096:=by omega
 have hge:¬ total zs≤n:=by omega
 have HT:=kz h1
 generalize htg:total zs=tot at *
 have HTG:=kz htg
 clear hs htb hlen htg
 go_enter Tryz.func206,Tryz.ntmps206
 go_wp2_with fail
 refine (oz HZ).mono ?_
 rintro e w1 ⟨rfl,hb1⟩
 have HB1:=kz hb1
 have HS1:=kz ((oz HS).below hb1)
 clear hb1
 obtain ⟨⟨a,ca,b,cb,hb0,hp,ha⟩,hsp,hl⟩:=oz HS1
 have d0:=hb0.cell 0
 have d1:=hb0.cell 1
 have HQ:=kz (ziz b cb zs.length (fun j =>total (zs.take j)) hl (ziw hsp.ends) n w1 ha)
 have HBk:=kz hb0
 have HP:=kz hp
 have HA:=kz ha
 have HSp:=kz hsp
 clear hb0 hp ha hsp
 go_wp2_with fail
 refine (oz HQ).mono ?_
 rintro e w2 ⟨k,rfl,hk,hka,hkb,hb2⟩
 obtain ⟨i,x,hif,hx,hx1,hx2⟩:=zkd (oz HSp).ends h0 (by rw [oz HTG];exact h1) hk hka hkb
 have HB2:=kz ((oz HB1).trans (hb2.mono (oz HB1).size))
 have hbk:=(oz HBk).below hb2 (oz HBk).lt
 have e0:=hbk.cell 0
 have e1:=hbk.cell 1
 have hil:=(List.getElem?_eq_some_iff.1 hx).1
 obtain ⟨g,o,rfl,hg,hc⟩:=((oz HP).below hb2) (by omega)
 obtain ⟨g',o',rfl,hg',hc'⟩:=((oz HA).below hb2) (by omega)
 have c0:=(hc i x hx).1
 have c2:=hc' i hil
 have HV:=kz (zlc zs i x n (oz HSp).ends hx hx1 hx2)
 have hex:=zar ((oz HSp).ends x (List.mem_of_getElem? hx)).1
 have r1:=zaz hex.1.1 hex.1.2.1
 have r2:=zaz hex.2.1 hex.2.2.1
 have hss:zaH x=zae x.2+1 - zae x.1:=rfl
 have htk:0≤total (zs.take i):=zdd (oz HSp).ends i
 have hlo:0≤x.1∧x.1≤1114111:=⟨hex.1.1,hex.1.2.1⟩
 rw [hss] at hx2
 generalize hdc:zfu zs.length (fun j =>total (zs.take j)) k n=dc at hif ⊢
 clear hdc hka hkb
 generalize total (zs.take i)=tk at *
 obtain ⟨lo,hi⟩:=x
 simp only at c0 hx2 HV r1 r2 hlo
 have hi1:(i:Int) < (zs.length:Int):=by omega
 have hi2:((i:Nat):Int).toNat=i:=by omega
 clear hb2 hbk hc hc' hx hss HQ HS HS1 HA HP HBk HZ hex
 cases dc with
 | true =>
  simp at hif
  subst hif
  go_wp2
  go_quiet (first | (go_at_call 202;exact Calls.quiet_of_same (zc2 _ (by omega) (by omega) _)) | (go_at_call 217;exact Calls.quiet_of_same (zel _ (by omega) (by omega) _)))
  go_wp2
  go_ret2
  exact ⟨by rw [oz HV,show zae lo+(n - tk)=zae lo+n - tk by omega];rfl,below_drewN (oz HB2) _⟩
 | false =>
  simp at hif
  subst hif
  have hi3:((i+1:Nat):Int) - 1=(i:Int):=by omega
  go_wp2
  go_quiet (first | (go_at_call 202;exact Calls.quiet_of_same (zc2 _ (by omega) (by omega) _)) | (go_at_call 217;exact Calls.quiet_of_same (zel _ (by omega) (by omega) _)))
  go_wp2
  go_ret2
  exact ⟨by rw [oz HV,show zae lo+(n - tk)=zae lo+n - tk by omega];rfl,below_drewN (oz HB2) _⟩
set_option maxRecDepth 100000 in
set_option maxHeartbeats 4000000 in
theorem zp1 (B:Nat) (zs:List (Int × Int)) (n:Int) (h:n < 0∨total zs≤n) (w:World) (hs:SetAt w B zs) :
  Calls Tryz.prog 206 #[.pointer (some ⟨B,0,none⟩),.int .i64 n] w fun e w' =>e=.returned (.tuple #[.int .i32 0,.bool false])∧Below w.heap.size w w':=by
 have HZ:=kz (zeI B zs w hs)
 by_cases h0:n < 0
 ·go_enter Tryz.func206,Tryz.ntmps206
  go_wp2
  go_ret2
  exact ⟨rfl,Below.refl _ _⟩
 ·have h1:total zs≤n:=by omega
  generalize total zs=tot at *
  clear hs h
  go_enter Tryz.func206,Tryz.ntmps206
  go_wp2_with fail
  refine (oz HZ).mono ?_
  rintro e w1 ⟨rfl,hb1⟩
  have HB1:=kz hb1
  clear hb1
  go_wp2
  go_ret2
  exact ⟨rfl,oz HB1⟩
def zl7 (zs:List (Int × Int)) (n:Int):Value:=if 0≤n∧n < total zs then .tuple #[.int .i32 (zbN zs n),.bool true] else .tuple #[.int .i32 0,.bool false]
theorem znU (B:Nat) (zs:List (Int × Int)) (n:Int) (w:World) (hs:SetAt w B zs) :
  Calls Tryz.prog 206 #[.pointer (some ⟨B,0,none⟩),.int .i64 n] w fun e w' =>e=.returned (zl7 zs n)∧Below w.heap.size w w':=by
 unfold zl7
 by_cases h:0≤n∧n < total zs
 ·rw [if_pos h];exact zqG B zs n h.1 h.2 w hs
 ·rw [if_neg h];exact zp1 B zs n (by omega) w hs
theorem zgs (B:Nat) (zs:List (Int × Int)) (r:Int) (h0 : -2147483648≤r) (h1:r≤2147483647) (w:World) (hs:SetAt w B zs) :
  Calls Tryz.prog 205 #[.pointer (some ⟨B,0,none⟩),.int .i32 r] w fun e w' =>e=.returned (.int .i64 (zav zs r))∧Below w.heap.size w w' :=
 (zij B zs r h0 h1 w hs).mono fun e w' ⟨k,he,hc,hb⟩ =>⟨by rw [he,zgu zs r k hs.spread hc],hb⟩
theorem zeC:∀ (zs:List (Int × Int)) (r:Int),za0 zs→-2147483648≤r→r≤2147483647→-(4294967296*zs.length)≤zav zs r∧zav zs r≤4294967296*zs.length
 | [],r,_,_,_ =>by simp [zav]
 | x::zs,r,hR,h0,h1 =>by
  have ih:=zeC zs r (fun z hz =>hR z (List.mem_cons_of_mem _ hz)) h0 h1
  have he:=zar (hR x List.mem_cons_self).1
  have a:=zaz he.1.1 he.1.2.1
  have b:=zaz he.2.1 he.2.2.1
  have c : -2147483648≤zae r∧zae r≤2147483647:=by unfold zae;split <;> (try split) <;> omega
  simp only [List.length_cons]
  show _≤(if x.1 < r then _ else 0)+zav zs r∧(if x.1 < r then _ else 0)+zav zs r≤_
  split <;> omega
set_option maxRecDepth 100000 in
set_option maxHeartbeats 4000000 in
theorem zox (B:Nat) (zs:List (Int × Int)) (r:Int) (hm:zal zs r=true) (h0 : -2147483648≤r) (h1:r≤2147483647) (w:World) (hs:SetAt w B zs) :
  Calls Tryz.prog 195 #[.pointer (some ⟨B,0,none⟩),.int .i32 r] w fun e w' =>e=.returned (zl7 zs (zav zs r+1))∧Below w.heap.size w w':=by
 have HS:=kz hs
 have hbd:=zeC zs r hs.spread.ends h0 h1
 have hl:=hs.len
 have HQ:=kz (zgs B zs r h0 h1 w hs)
 have HI:=kz (fun w hs =>zjx B zs r w hs)
 rw [hm] at HI
 obtain ⟨bo,hbo⟩:∃ bo,zav zs r=bo:=⟨_,rfl⟩
 rw [hbo] at hbd HQ ⊢
 have hbb : -9000000000000000≤bo∧bo≤9000000000000000:=by omega
 obtain ⟨t,d,ht⟩:∃ t d,zl7 zs (bo+1)=.tuple #[.int .i32 t,.bool d]:=by
  unfold zl7
  split <;> exact ⟨_,_,rfl⟩
 have HA:=kz (fun w hs =>znU B zs (bo+1) w hs)
 rw [ht] at HA ⊢
 clear hs hbd hl hm hbo ht
 go_enter Tryz.func195,Tryz.ntmps195
 go_wp2_with fail
 refine (oz HQ).mono ?_
 rintro e w1 ⟨rfl,hb1⟩
 have HB1:=kz hb1
 have HS1:=kz ((oz HS).below hb1)
 clear hb1
 go_wp2_with fail
 refine (oz HI w1 (oz HS1)).mono ?_
 rintro e w2 ⟨rfl,hb2⟩
 have HB2:=kz ((oz HB1).trans (hb2.mono (oz HB1).size))
 have HS2:=kz ((oz HS1).below hb2)
 clear hb2
 go_wp2_with fail
 refine (oz HA w2 (oz HS2)).mono ?_
 rintro e w3 ⟨rfl,hb3⟩
 have HB3:=kz ((oz HB2).trans (hb3.mono (oz HB2).size))
 clear hb3
 go_wp2
 go_ret2
 exact ⟨rfl,oz HB3⟩
set_option maxRecDepth 100000 in
set_option maxHeartbeats 4000000 in
theorem zm2 (B:Nat) (zs:List (Int × Int)) (r:Int) (hm:zal zs r=false) (h0 : -2147483648≤r) (h1:r≤2147483647) (w:World) (hs:SetAt w B zs) :
  Calls Tryz.prog 195 #[.pointer (some ⟨B,0,none⟩),.int .i32 r] w fun e w' =>e=.returned (zl7 zs (zav zs r))∧Below w.heap.size w w':=by
 have HS:=kz hs
 have hbd:=zeC zs r hs.spread.ends h0 h1
 have hl:=hs.len
 have HQ:=kz (zgs B zs r h0 h1 w hs)
 have HI:=kz (fun w hs =>zjx B zs r w hs)
 rw [hm] at HI
 obtain ⟨bo,hbo⟩:∃ bo,zav zs r=bo:=⟨_,rfl⟩
 rw [hbo] at hbd HQ ⊢
 have hbb : -9000000000000000≤bo∧bo≤9000000000000000:=by omega
 obtain ⟨t,d,ht⟩:∃ t d,zl7 zs (bo)=.tuple #[.int .i32 t,.bool d]:=by
  unfold zl7
  split <;> exact ⟨_,_,rfl⟩
 have HA:=kz (fun w hs =>znU B zs (bo) w hs)
 rw [ht] at HA ⊢
 clear hs hbd hl hm hbo ht
 go_enter Tryz.func195,Tryz.ntmps195
 go_wp2_with fail
 refine (oz HQ).mono ?_
 rintro e w1 ⟨rfl,hb1⟩
 have HB1:=kz hb1
 have HS1:=kz ((oz HS).below hb1)
 clear hb1
 go_wp2_with fail
 refine (oz HI w1 (oz HS1)).mono ?_
 rintro e w2 ⟨rfl,hb2⟩
 have HB2:=kz ((oz HB1).trans (hb2.mono (oz HB1).size))
 have HS2:=kz ((oz HS1).below hb2)
 clear hb2
 go_wp2_with fail
 refine (oz HA w2 (oz HS2)).mono ?_
 rintro e w3 ⟨rfl,hb3⟩
 have HB3:=kz ((oz HB2).trans (hb3.mono (oz HB2).size))
 clear hb3
 go_wp2
 go_ret2
 exact ⟨rfl,oz HB3⟩
end Go.Proofs.YtmemedpoaocdkaaGreat
