/- Texts of this claim, one behind the other. -/
import Derived.Test.YtmemedpoaocdkaaGreatTlN
import Derived.Test.YtmemedpoaocdkaaGreatM22
/- A Book of tables: what every table says alike, walked. -/
namespace Go.Proofs.YtmemedpoaocdkaaGreat
open Go.RowKit Go.Shelf Go.Maps
set_option linter.unusedVariables false
structure UlB (W w:World) (R B:Nat) (T:TV) (a0 a1 a2 a3 a4 a5 a6 a7:Option Addr) (c0 c1 c2 c3 c4 c5 c6 c7:Nat) (us:List Value) (Cc Ca:Nat):Prop where
 bl:Below W.heap.size W w
 st:StG w R B T a0 a1 a2 a3 a4 a5 a6 a7 c0 c1 c2 c3 c4 c5 c6 c7 us
 cc:w.cell? ⟨B,9,none⟩=some (.pointer (some ⟨Cc,0,none⟩))
 co:SetV w T.co Cc
 ca:w.cell? ⟨B,11,none⟩=some (.pointer (some ⟨Ca,0,none⟩))
 ao:SetV w T.al Ca
theorem UlB.below {W w w':World} {R B:Nat} {T:TV} {a0 a1 a2 a3 a4 a5 a6 a7:Option Addr} {c0 c1 c2 c3 c4 c5 c6 c7:Nat} {us:List Value} {Cc Ca:Nat} (h:UlB W w R B T a0 a1 a2 a3 a4 a5 a6 a7 c0 c1 c2 c3 c4 c5 c6 c7 us Cc Ca) (hb:Below w.heap.size w w'):UlB W w' R B T a0 a1 a2 a3 a4 a5 a6 a7 c0 c1 c2 c3 c4 c5 c6 c7 us Cc Ca :=
 ⟨h.bl.trans (hb.mono h.bl.size),h.st.below hb,(hb.cell (p:=⟨B,9,none⟩) h.st.tb.lt).trans h.cc,h.co.below hb,(hb.cell (p:=⟨B,11,none⟩) h.st.tb.lt).trans h.ca,h.ao.below hb⟩
theorem zj0 {w:World} {C:Nat} {l:List (Int × Int)} (h:SetV w l C):StP (w.alloc (.cells #[.pointer (some ⟨C,0,none⟩)] 101)) w.heap.size C l:=⟨Blk.new w _ _,h.below ((Below.refl _ w).alloc (Nat.le_refl _) _)⟩
theorem al1 (w:World) (x:Obj):Below w.heap.size w (w.alloc x):=(Below.refl _ w).alloc (Nat.le_refl _) _
theorem al2 (w:World) (x y:Obj):Below w.heap.size w ((w.alloc x).alloc y):=((Below.refl _ w).alloc (Nat.le_refl _) _).alloc (by simp) _
theorem dr1 (w:World):Below w.heap.size w w.drew:=⟨rfl,rfl,rfl,Nat.le_refl _,fun _ _ =>rfl⟩
set_option maxRecDepth 100000 in
set_option maxHeartbeats 8000000 in
theorem zjJ {T:TV} (hO:zam T) (hz:(∀ x ∈ T.fo,x.2.size≤1048576)∧∀ x ∈ T.lk,x.2.size≤1048576) (B:Nat) (W:World) (h:BookAt W B T):Calls Tryz.prog 82 #[.pointer (some ⟨B,0,none⟩)] W fun e w' =>e=.returned (wrV (zdt T))∧Below W.heap.size W w':=by
 have hmx:Tryz.prog.follows .mixedOrders=true:=by kernel_rfl
 obtain ⟨a0,a1,a2,a3,a4,a5,a6,a7,c0,c1,c2,c3,c4,c5,c6,c7,us,tb⟩:=h.tabs
 obtain ⟨Cc,kc,sc⟩:=h.cos
 obtain ⟨Ca,ka,sa⟩:=h.als
 have hB1:=al1 W (.cells #[.int .i64 0,.int .i64 0,.int .i64 0] 76)
 have H1:UlB W (W.alloc (.cells #[.int .i64 0,.int .i64 0,.int .i64 0] 76)) W.heap.size B T a0 a1 a2 a3 a4 a5 a6 a7 c0 c1 c2 c3 c4 c5 c6 c7 us Cc Ca:=⟨hB1,⟨h.below hB1,Blk.new W _ _,tb.below hB1⟩,(hB1.cell (p:=⟨B,9,none⟩) tb.lt).trans kc,sc.below hB1,(hB1.cell (p:=⟨B,11,none⟩) tb.lt).trans ka,sa.below hB1⟩
 have HO:=kz hO
 have HZ:=kz hz
 have b2:Blk ((W.alloc (.cells #[.int .i64 0,.int .i64 0,.int .i64 0] 76)).alloc (.cells #[.int .i32 0,.int .i32 127] 113)) (W.heap.size+1) #[.int .i32 0,.int .i32 127] 113:=by
  have h:=Blk.new (W.alloc (.cells #[.int .i64 0,.int .i64 0,.int .i64 0] 76)) #[.int .i32 0,.int .i32 127] 113
  rw [World.size_alloc] at h
  exact h
 have HC:=kz (zdf [(0,127)] 1 rfl (by decide) (by unfold zbb;decide) _ _ _ _ b2 rfl)
 have HS:=kz (H1.below (al1 _ (.cells #[.int .i32 0,.int .i32 127] 113)))
 clear hO hz tb kc sc ka sa hB1 H1 b2 h
 go_enter Tryz.func82,Tryz.ntmps82
 go_wp2_with fail
 refine (oz HC).mono ?_
 rintro e w3 ⟨C3,rfl,hs,hb⟩
 have HS3:=kz (And.intro ((oz HS).below hb) hs)
 clear hs hb HC HS
 have HC:=kz (zdf [(65533,65533)] 1 rfl (by decide) (by unfold zbb;decide) _ _ _ _ (Blk.new w3 #[.int .i32 65533,.int .i32 65533] 113) rfl)
 have HS:=kz (And.intro ((oz HS3).1.below (al1 w3 (.cells #[.int .i32 65533,.int .i32 65533] 113))) ((oz HS3).2.below (al1 w3 (.cells #[.int .i32 65533,.int .i32 65533] 113))))
 clear HS3
 go_wp2_with fail
 refine (oz HC).mono ?_
 rintro e w4 ⟨Cx,rfl,hs,hb⟩
 have HS4:=kz (And.intro ((oz HS).1.below hb) ((oz HS).2.below hb))
 have HC:=kz (zlj (by decide) (by decide) (oz HS4).2 hs)
 clear hs hb HS
 go_wp2_with fail
 refine (oz HC).mono ?_
 rintro e w5 ⟨C4,rfl,hs,hb⟩
 have hn:=al1 w5 (.cells #[.pointer (some ⟨C4,0,none⟩)] 101)
 have HS:=kz (And.intro (((oz HS4).1.below hb).below hn) (And.intro (((oz HS4).2.below hb).below hn) (zj0 hs)))
 clear hs hb hn HC HS4
 go_wp2_with fail
 generalize w5.alloc (.cells #[.pointer (some ⟨C4,0,none⟩)] 101)=w6 at *
 obtain ⟨g4,hg4⟩:∃ g4,g4=w5.heap.size:=⟨_,rfl⟩
 rw [← hg4] at HS ⊢
 clear hg4
 have HF:Hz (∀ w1,Below w6.drew.heap.size w6.drew w1→StP w1 g4 C4 zml):=kz (fun w1 hb =>((oz HS).2.2.below (dr1 w6)).below hb)
 refine zll hmx HF ?_
 intro U g5 C5 w7 HN
 have HS7:=kz (And.intro ((oz HS).1.below (oz HN).2) (And.intro ((oz HS).2.1.below (oz HN).2) (And.intro ((oz HS).2.2.below (oz HN).2) (oz HN).1)))
 clear HF HS HN
 have hn:=al1 w7 (.cells #[.int .i32 0,.int .i32 31,.int .i32 45,.int .i32 46,.int .i32 65533,.int .i32 65533] 113)
 have HC:=kz (zdf zql 3 rfl (by decide) (by unfold zbb;decide) _ _ _ _ (Blk.new w7 #[.int .i32 0,.int .i32 31,.int .i32 45,.int .i32 46,.int .i32 65533,.int .i32 65533] 113) rfl)
 have HS:=kz (And.intro ((oz HS7).1.below hn) (And.intro ((oz HS7).2.1.below hn) (And.intro ((oz HS7).2.2.1.below hn) ((oz HS7).2.2.2.below hn))))
 clear hn HS7
 go_wp2_with fail
 refine (oz HC).mono ?_
 rintro e w8 ⟨C6,rfl,hs,hb⟩
 have hn:Below w8.heap.size w8 (w8.alloc (.cells #[.pointer (some ⟨C6,0,none⟩)] 101)):=al1 _ _
 have hm:Below w8.heap.size w8 ((w8.alloc (.cells #[.pointer (some ⟨C6,0,none⟩)] 101)).alloc (.cells #[.int .i32 45,.int .i32 46,.int .i32 48,.int .i32 57] 113)):=al2 _ _ _
 have HS8:=kz (And.intro (((oz HS).1.below hb).below hm) (And.intro (((oz HS).2.1.below hb).below hm) (And.intro (((oz HS).2.2.1.below hb).below hm) (And.intro (((oz HS).2.2.2.below hb).below hm) ((zj0 hs).below (al1 _ (.cells #[.int .i32 45,.int .i32 46,.int .i32 48,.int .i32 57] 113)))))))
 have b9:Blk ((w8.alloc (.cells #[.pointer (some ⟨C6,0,none⟩)] 101)).alloc (.cells #[.int .i32 45,.int .i32 46,.int .i32 48,.int .i32 57] 113)) (w8.heap.size+1) #[.int .i32 45,.int .i32 46,.int .i32 48,.int .i32 57] 113:=by
  have h:=Blk.new (w8.alloc (.cells #[.pointer (some ⟨C6,0,none⟩)] 101)) #[.int .i32 45,.int .i32 46,.int .i32 48,.int .i32 57] 113
  rw [World.size_alloc] at h
  exact h
 have HC:=kz (zdf zrJ 2 rfl (by decide) (by unfold zbb;decide) _ _ _ _ b9 rfl)
 clear hs hb hn hm HS b9
 go_wp2_with fail
 refine (oz HC).mono ?_
 rintro e w9 ⟨C7,rfl,hs,hb⟩
 have hn:=al1 w9 (.cells #[.int .i32 45,.int .i32 45,.int .i32 48,.int .i32 57,.int .i32 97,.int .i32 122] 113)
 obtain ⟨g6,hg6⟩:∃ g6,g6=w8.heap.size:=⟨_,rfl⟩
 rw [← hg6] at HS8 ⊢
 clear hg6
 have HS9:=kz (And.intro (((oz HS8).1.below hb).below hn) (And.intro (((oz HS8).2.1.below hb).below hn) (And.intro (((oz HS8).2.2.1.below hb).below hn) (And.intro (((oz HS8).2.2.2.1.below hb).below hn) (And.intro (((oz HS8).2.2.2.2.below hb).below hn) (hs.below hn))))))
 have HC:=kz (zdf zn7 3 rfl (by decide) (by unfold zbb;decide) _ _ _ _ (Blk.new w9 #[.int .i32 45,.int .i32 45,.int .i32 48,.int .i32 57,.int .i32 97,.int .i32 122] 113) rfl)
 clear hs hb hn HS8
 go_wp2_with fail
 refine (oz HC).mono ?_
 rintro e w10 ⟨C8,rfl,hs,hb⟩
 have HS10:=kz (And.intro ((oz HS9).1.below hb) (And.intro ((oz HS9).2.1.below hb) (And.intro ((oz HS9).2.2.1.below hb) (And.intro ((oz HS9).2.2.2.1.below hb) (And.intro ((oz HS9).2.2.2.2.1.below hb) (And.intro ((oz HS9).2.2.2.2.2.below hb) hs))))))
 have HC:=kz (zh1 (l:=zrf) (by decide) (by decide) (by decide) zkk (oz HS10).2.1 (oz HS10).2.2.2.2.2.2)
 clear hs hb HS9
 go_wp2_with fail
 refine (oz HC).mono ?_
 rintro e w11 ⟨C9,rfl,hs,hb⟩
 have hn:=al1 w11 (.cells #[.pointer (some ⟨C9,0,none⟩)] 101)
 have HS11:Hz (UlF (w11.alloc (.cells #[.pointer (some ⟨C9,0,none⟩)] 101)) W.heap.size B T a0 a1 a2 a3 a4 a5 a6 a7 c0 c1 c2 c3 c4 c5 c6 c7 us Cc Ca g4 C4 g5 C5 g6 C6 C7 C8 w11.heap.size C9∧Below W.heap.size W (w11.alloc (.cells #[.pointer (some ⟨C9,0,none⟩)] 101))):=kz (by
  have u:=((oz HS10).1.below hb).below hn
  exact ⟨⟨u.st,u.cc,u.co,u.ca,u.ao,((oz HS10).2.2.1.below hb).below hn,((oz HS10).2.2.2.1.below hb).below hn,((oz HS10).2.2.2.2.1.below hb).below hn,((oz HS10).2.2.2.2.2.1.below hb).below hn,((oz HS10).2.2.2.2.2.2.below hb).below hn,zj0 hs⟩,u.bl⟩)
 clear hs hb hn HS10 HC
 go_wp2_with fail
 generalize w11.alloc (.cells #[.pointer (some ⟨C9,0,none⟩)] 101)=w12 at *
 have HF:Hz (∀ w1,Below w12.drew.heap.size w12.drew w1→UlF w1 W.heap.size B T a0 a1 a2 a3 a4 a5 a6 a7 c0 c1 c2 c3 c4 c5 c6 c7 us Cc Ca g4 C4 g5 C5 g6 C6 C7 C8 w11.heap.size C9):=kz (fun w1 hb =>((oz HS11).1.below (dr1 w12)).below hb)
 have HB:Hz (Below W.heap.size W w12.drew∧W.heap.size≤W.heap.size):=kz ⟨(oz HS11).2.trans ((dr1 w12).mono (oz HS11).2.size),Nat.le_refl _⟩
 refine zlk (oz HO) (oz HZ) hmx HF HB ?_
 intro U2 y0 y1 y2 wn HN
 go_wp2_with fail
 exact bodyPost_ret (v:=wrV (y0,y1,y2)) (zco Tryz.results82 rfl (oz HN).2.2 rfl) rfl ⟨by rw [(oz HN).1],(oz HN).2.1⟩
def wrL (T:TV):List (Int × Int × Int) := [zbR T,zdA T,zcl T,zcr T,zit T,zdt T]
theorem zrg (T:TV):∀ x ∈ wrL T,OkW x:=by
 intro x hx
 unfold wrL at hx
 simp only [List.mem_cons,List.not_mem_nil,or_false] at hx
 rcases hx with rfl | rfl | rfl | rfl | rfl | rfl
 ·exact zaM _ _ _ _
 ·exact zaM _ _ _ _
 all_goals exact zbA _
structure WrS (W w:World) (B:Nat) (T:TV):Prop where
 bl:Below W.heap.size W w
 rs:Blk w W.heap.size #[.int .i64 0,.int .i64 0,.int .i64 0] 76
 fs:Blk w (W.heap.size+1) #[.func (.func 77) #[.pointer (some ⟨B,0,none⟩)] #[],.func (.func 78) #[.pointer (some ⟨B,0,none⟩)] #[],.func (.func 79) #[.pointer (some ⟨B,0,none⟩)] #[],.func (.func 80) #[.pointer (some ⟨B,0,none⟩)] #[],.func (.func 81) #[.pointer (some ⟨B,0,none⟩)] #[],.func (.func 82) #[.pointer (some ⟨B,0,none⟩)] #[]] 111
 bk:BookAt w B T
theorem WrS.below {W w w':World} {B:Nat} {T:TV} (h:WrS W w B T) (hb:Below w.heap.size w w'):WrS W w' B T:=⟨h.bl.trans (hb.mono h.bl.size),h.rs.below hb h.rs.lt,h.fs.below hb h.fs.lt,h.bk.below hb⟩
set_option maxRecDepth 100000 in
set_option maxHeartbeats 8000000 in
theorem zkH {T:TV} (hO:zam T) (hz:(∀ x ∈ T.fo,x.2.size≤1048576)∧∀ x ∈ T.lk,x.2.size≤1048576) (B:Nat) (W:World) (h:BookAt W B T):Calls Tryz.prog 53 #[.pointer (some ⟨B,0,none⟩)] W fun e w' =>e=.returned (wrV (orW (wrL T)))∧Below W.heap.size W w':=by
 have hmf:∀ (fn:Fn) (first cap:Array Value) (w:World),(Instr.makeFunc fn first cap).run Tryz.prog w=.ok (.func fn first cap) w:=fun _ _ _ _ =>rfl
 have hB0:Below W.heap.size W ((W.alloc (.cells #[.int .i64 0,.int .i64 0,.int .i64 0] 76)).alloc (.cells #[.func (.func 77) #[.pointer (some ⟨B,0,none⟩)] #[],.func (.func 78) #[.pointer (some ⟨B,0,none⟩)] #[],.func (.func 79) #[.pointer (some ⟨B,0,none⟩)] #[],.func (.func 80) #[.pointer (some ⟨B,0,none⟩)] #[],.func (.func 81) #[.pointer (some ⟨B,0,none⟩)] #[],.func (.func 82) #[.pointer (some ⟨B,0,none⟩)] #[]] 111)):=((Below.refl _ W).alloc (Nat.le_refl _) _).alloc (by simp) _
 have bF:Blk ((W.alloc (.cells #[.int .i64 0,.int .i64 0,.int .i64 0] 76)).alloc (.cells #[.func (.func 77) #[.pointer (some ⟨B,0,none⟩)] #[],.func (.func 78) #[.pointer (some ⟨B,0,none⟩)] #[],.func (.func 79) #[.pointer (some ⟨B,0,none⟩)] #[],.func (.func 80) #[.pointer (some ⟨B,0,none⟩)] #[],.func (.func 81) #[.pointer (some ⟨B,0,none⟩)] #[],.func (.func 82) #[.pointer (some ⟨B,0,none⟩)] #[]] 111)) (W.heap.size+1) #[.func (.func 77) #[.pointer (some ⟨B,0,none⟩)] #[],.func (.func 78) #[.pointer (some ⟨B,0,none⟩)] #[],.func (.func 79) #[.pointer (some ⟨B,0,none⟩)] #[],.func (.func 80) #[.pointer (some ⟨B,0,none⟩)] #[],.func (.func 81) #[.pointer (some ⟨B,0,none⟩)] #[],.func (.func 82) #[.pointer (some ⟨B,0,none⟩)] #[]] 111:=by
  have h:=Blk.new (W.alloc (.cells #[.int .i64 0,.int .i64 0,.int .i64 0] 76)) #[.func (.func 77) #[.pointer (some ⟨B,0,none⟩)] #[],.func (.func 78) #[.pointer (some ⟨B,0,none⟩)] #[],.func (.func 79) #[.pointer (some ⟨B,0,none⟩)] #[],.func (.func 80) #[.pointer (some ⟨B,0,none⟩)] #[],.func (.func 81) #[.pointer (some ⟨B,0,none⟩)] #[],.func (.func 82) #[.pointer (some ⟨B,0,none⟩)] #[]] 111
  rw [World.size_alloc] at h
  exact h
 have H0:Hz (WrS W ((W.alloc (.cells #[.int .i64 0,.int .i64 0,.int .i64 0] 76)).alloc (.cells #[.func (.func 77) #[.pointer (some ⟨B,0,none⟩)] #[],.func (.func 78) #[.pointer (some ⟨B,0,none⟩)] #[],.func (.func 79) #[.pointer (some ⟨B,0,none⟩)] #[],.func (.func 80) #[.pointer (some ⟨B,0,none⟩)] #[],.func (.func 81) #[.pointer (some ⟨B,0,none⟩)] #[],.func (.func 82) #[.pointer (some ⟨B,0,none⟩)] #[]] 111)) B T):=kz ⟨hB0,(Blk.new W _ _).alloc _,bF,h.below hB0⟩
 have HO:=kz hO
 have HZ:=kz hz
 have HK:=kz (zrg T)
 clear hB0 bF h hO hz
 go_enter Tryz.func53,Tryz.ntmps53
 go_wp2_with fail
 generalize ((W.alloc (.cells #[.int .i64 0,.int .i64 0,.int .i64 0] 76)).alloc (.cells #[.func (.func 77) #[.pointer (some ⟨B,0,none⟩)] #[],.func (.func 78) #[.pointer (some ⟨B,0,none⟩)] #[],.func (.func 79) #[.pointer (some ⟨B,0,none⟩)] #[],.func (.func 80) #[.pointer (some ⟨B,0,none⟩)] #[],.func (.func 81) #[.pointer (some ⟨B,0,none⟩)] #[],.func (.func 82) #[.pointer (some ⟨B,0,none⟩)] #[]] 111))=u0 at *
 clear hmf
 go_loopw [4,5,20] (fun _ _ s20 wr => ∃ k:Nat,k≤6∧s20=.int .i64 k∧Hz (orW (wrL T)=orW ((wrL T).drop k))∧Hz (WrS W wr B T)) (fun _ _ s20 _ =>6 - (intOf s20).toNat)
 case atStart =>exact ⟨0,Nat.zero_le _,rfl,kz (by rw [List.drop_zero]),H0⟩
 case round =>
  obtain ⟨k,hk,rfl,HD,HS⟩:=hrel
  clear H0
  obtain rfl | rfl | rfl | rfl | rfl | rfl | rfl:k=0∨k=1∨k=2∨k=3∨k=4∨k=5∨k=6:=by omega
  ·have g0:=(oz HS).fs.cell 0
   have HC:=kz (zhA (oz HO) B wr (oz HS).bk)
   obtain ⟨x,hx⟩:∃ x,zbR T=x:=⟨_,rfl⟩
   have HX:Hz (orW (wrL T)=orW (x::(wrL T).drop 1)∧OkW x):=kz ⟨by rw [oz HD, ← hx];rfl,oz HK x (by rw [← hx];unfold wrL;simp)⟩
   rw [hx] at HC
   clear hx HD
   obtain ⟨x0,x1,x2⟩:=x
   unfold wrV at HC
   dsimp only at HC
   by_cases hz0:x0=0
   ·obtain ⟨h0,hh⟩:=Prod.mk.inj ((oz HX).2 hz0)
    obtain ⟨rfl,rfl⟩:=Prod.mk.inj hh
    subst h0
    have HD2:Hz (orW (wrL T)=orW ((wrL T).drop 1)):=kz (by rw [(oz HX).1,zad rfl])
    clear hz0 hh HX
    go_wp2_with (go_at_call 77;refine (oz HC).mono ?_;rintro e w5 ⟨rfl,hb⟩;have HS2:=kz (((oz HS).below hb).below ((Below.refl _ w5).alloc (Nat.le_refl _) (.cells #[.int .i64 0,.int .i64 0,.int .i64 0] 76)));clear hb)
    exact ⟨⟨1,by omega,by go_num,HD2,HS2⟩,by simp [intOf]⟩
   ·have n0:(x0 == 0)=false:=by simpa using hz0
    have n1:(x0 != 0)=true:=by simpa using hz0
    have HV:Hz (orW (wrL T)=(x0,x1,x2)):=kz (by rw [(oz HX).1,zaj hz0])
    clear HX
    go_wp2_with (go_at_call 77;refine (oz HC).mono ?_;rintro e w5 ⟨rfl,hb⟩;have HS2:=kz (((oz HS).below hb).below ((Below.refl _ w5).alloc (Nat.le_refl _) (.cells #[.int .i64 x0,.int .i64 x1,.int .i64 x2] 76)));have r0:=(oz HS2).rs.cell 0;have r1:=(oz HS2).rs.cell 1;have r2:=(oz HS2).rs.cell 2;have f0:=(oz HS2).rs.frozen 0;have f1:=(oz HS2).rs.frozen 1;have f2:=(oz HS2).rs.frozen 2;clear hb)
    rw [oz HV]
    exact bodyPost_ret (v:=wrV (x0,x1,x2)) (zco Tryz.results53 rfl (zcw (oz HS2).rs _ _ _) rfl) rfl ⟨rfl,za0 (oz HS2).bl (Nat.le_refl _) (oz HS2).bl.size _ _ _⟩
  ·have g0:=(oz HS).fs.cell 1
   have HC:=kz (ziY (oz HO) B wr (oz HS).bk)
   obtain ⟨x,hx⟩:∃ x,zdA T=x:=⟨_,rfl⟩
   have HX:Hz (orW (wrL T)=orW (x::(wrL T).drop 2)∧OkW x):=kz ⟨by rw [oz HD, ← hx];rfl,oz HK x (by rw [← hx];unfold wrL;simp)⟩
   rw [hx] at HC
   clear hx HD
   obtain ⟨x0,x1,x2⟩:=x
   unfold wrV at HC
   dsimp only at HC
   by_cases hz0:x0=0
   ·obtain ⟨h0,hh⟩:=Prod.mk.inj ((oz HX).2 hz0)
    obtain ⟨rfl,rfl⟩:=Prod.mk.inj hh
    subst h0
    have HD2:Hz (orW (wrL T)=orW ((wrL T).drop 2)):=kz (by rw [(oz HX).1,zad rfl])
    clear hz0 hh HX
    go_wp2_with (go_at_call 78;refine (oz HC).mono ?_;rintro e w5 ⟨rfl,hb⟩;have HS2:=kz (((oz HS).below hb).below ((Below.refl _ w5).alloc (Nat.le_refl _) (.cells #[.int .i64 0,.int .i64 0,.int .i64 0] 76)));clear hb)
    exact ⟨⟨2,by omega,by go_num,HD2,HS2⟩,by simp [intOf]⟩
   ·have n0:(x0 == 0)=false:=by simpa using hz0
    have n1:(x0 != 0)=true:=by simpa using hz0
    have HV:Hz (orW (wrL T)=(x0,x1,x2)):=kz (by rw [(oz HX).1,zaj hz0])
    clear HX
    go_wp2_with (go_at_call 78;refine (oz HC).mono ?_;rintro e w5 ⟨rfl,hb⟩;have HS2:=kz (((oz HS).below hb).below ((Below.refl _ w5).alloc (Nat.le_refl _) (.cells #[.int .i64 x0,.int .i64 x1,.int .i64 x2] 76)));have r0:=(oz HS2).rs.cell 0;have r1:=(oz HS2).rs.cell 1;have r2:=(oz HS2).rs.cell 2;have f0:=(oz HS2).rs.frozen 0;have f1:=(oz HS2).rs.frozen 1;have f2:=(oz HS2).rs.frozen 2;clear hb)
    rw [oz HV]
    exact bodyPost_ret (v:=wrV (x0,x1,x2)) (zco Tryz.results53 rfl (zcw (oz HS2).rs _ _ _) rfl) rfl ⟨rfl,za0 (oz HS2).bl (Nat.le_refl _) (oz HS2).bl.size _ _ _⟩
  ·have g0:=(oz HS).fs.cell 2
   have HC:=kz (zjI (oz HO) B wr (oz HS).bk)
   obtain ⟨x,hx⟩:∃ x,zcl T=x:=⟨_,rfl⟩
   have HX:Hz (orW (wrL T)=orW (x::(wrL T).drop 3)∧OkW x):=kz ⟨by rw [oz HD, ← hx];rfl,oz HK x (by rw [← hx];unfold wrL;simp)⟩
   rw [hx] at HC
   clear hx HD
   obtain ⟨x0,x1,x2⟩:=x
   unfold wrV at HC
   dsimp only at HC
   by_cases hz0:x0=0
   ·obtain ⟨h0,hh⟩:=Prod.mk.inj ((oz HX).2 hz0)
    obtain ⟨rfl,rfl⟩:=Prod.mk.inj hh
    subst h0
    have HD2:Hz (orW (wrL T)=orW ((wrL T).drop 3)):=kz (by rw [(oz HX).1,zad rfl])
    clear hz0 hh HX
    go_wp2_with (go_at_call 79;refine (oz HC).mono ?_;rintro e w5 ⟨rfl,hb⟩;have HS2:=kz (((oz HS).below hb).below ((Below.refl _ w5).alloc (Nat.le_refl _) (.cells #[.int .i64 0,.int .i64 0,.int .i64 0] 76)));clear hb)
    exact ⟨⟨3,by omega,by go_num,HD2,HS2⟩,by simp [intOf]⟩
   ·have n0:(x0 == 0)=false:=by simpa using hz0
    have n1:(x0 != 0)=true:=by simpa using hz0
    have HV:Hz (orW (wrL T)=(x0,x1,x2)):=kz (by rw [(oz HX).1,zaj hz0])
    clear HX
    go_wp2_with (go_at_call 79;refine (oz HC).mono ?_;rintro e w5 ⟨rfl,hb⟩;have HS2:=kz (((oz HS).below hb).below ((Below.refl _ w5).alloc (Nat.le_refl _) (.cells #[.int .i64 x0,.int .i64 x1,.int .i64 x2] 76)));have r0:=(oz HS2).rs.cell 0;have r1:=(oz HS2).rs.cell 1;have r2:=(oz HS2).rs.cell 2;have f0:=(oz HS2).rs.frozen 0;have f1:=(oz HS2).rs.frozen 1;have f2:=(oz HS2).rs.frozen 2;clear hb)
    rw [oz HV]
    exact bodyPost_ret (v:=wrV (x0,x1,x2)) (zco Tryz.results53 rfl (zcw (oz HS2).rs _ _ _) rfl) rfl ⟨rfl,za0 (oz HS2).bl (Nat.le_refl _) (oz HS2).bl.size _ _ _⟩
  ·have g0:=(oz HS).fs.cell 3
   have HC:=kz (zf0 (oz HO) B wr (oz HS).bk)
   obtain ⟨x,hx⟩:∃ x,zcr T=x:=⟨_,rfl⟩
   have HX:Hz (orW (wrL T)=orW (x::(wrL T).drop 4)∧OkW x):=kz ⟨by rw [oz HD, ← hx];rfl,oz HK x (by rw [← hx];unfold wrL;simp)⟩
   rw [hx] at HC
   clear hx HD
   obtain ⟨x0,x1,x2⟩:=x
   unfold wrV at HC
   dsimp only at HC
   by_cases hz0:x0=0
   ·obtain ⟨h0,hh⟩:=Prod.mk.inj ((oz HX).2 hz0)
    obtain ⟨rfl,rfl⟩:=Prod.mk.inj hh
    subst h0
    have HD2:Hz (orW (wrL T)=orW ((wrL T).drop 4)):=kz (by rw [(oz HX).1,zad rfl])
    clear hz0 hh HX
    go_wp2_with (go_at_call 80;refine (oz HC).mono ?_;rintro e w5 ⟨rfl,hb⟩;have HS2:=kz (((oz HS).below hb).below ((Below.refl _ w5).alloc (Nat.le_refl _) (.cells #[.int .i64 0,.int .i64 0,.int .i64 0] 76)));clear hb)
    exact ⟨⟨4,by omega,by go_num,HD2,HS2⟩,by simp [intOf]⟩
   ·have n0:(x0 == 0)=false:=by simpa using hz0
    have n1:(x0 != 0)=true:=by simpa using hz0
    have HV:Hz (orW (wrL T)=(x0,x1,x2)):=kz (by rw [(oz HX).1,zaj hz0])
    clear HX
    go_wp2_with (go_at_call 80;refine (oz HC).mono ?_;rintro e w5 ⟨rfl,hb⟩;have HS2:=kz (((oz HS).below hb).below ((Below.refl _ w5).alloc (Nat.le_refl _) (.cells #[.int .i64 x0,.int .i64 x1,.int .i64 x2] 76)));have r0:=(oz HS2).rs.cell 0;have r1:=(oz HS2).rs.cell 1;have r2:=(oz HS2).rs.cell 2;have f0:=(oz HS2).rs.frozen 0;have f1:=(oz HS2).rs.frozen 1;have f2:=(oz HS2).rs.frozen 2;clear hb)
    rw [oz HV]
    exact bodyPost_ret (v:=wrV (x0,x1,x2)) (zco Tryz.results53 rfl (zcw (oz HS2).rs _ _ _) rfl) rfl ⟨rfl,za0 (oz HS2).bl (Nat.le_refl _) (oz HS2).bl.size _ _ _⟩
  ·have g0:=(oz HS).fs.cell 4
   have HC:=kz (zgJ (oz HO) (oz HZ) B wr (oz HS).bk)
   obtain ⟨x,hx⟩:∃ x,zit T=x:=⟨_,rfl⟩
   have HX:Hz (orW (wrL T)=orW (x::(wrL T).drop 5)∧OkW x):=kz ⟨by rw [oz HD, ← hx];rfl,oz HK x (by rw [← hx];unfold wrL;simp)⟩
   rw [hx] at HC
   clear hx HD
   obtain ⟨x0,x1,x2⟩:=x
   unfold wrV at HC
   dsimp only at HC
   by_cases hz0:x0=0
   ·obtain ⟨h0,hh⟩:=Prod.mk.inj ((oz HX).2 hz0)
    obtain ⟨rfl,rfl⟩:=Prod.mk.inj hh
    subst h0
    have HD2:Hz (orW (wrL T)=orW ((wrL T).drop 5)):=kz (by rw [(oz HX).1,zad rfl])
    clear hz0 hh HX
    go_wp2_with (go_at_call 81;refine (oz HC).mono ?_;rintro e w5 ⟨rfl,hb⟩;have HS2:=kz (((oz HS).below hb).below ((Below.refl _ w5).alloc (Nat.le_refl _) (.cells #[.int .i64 0,.int .i64 0,.int .i64 0] 76)));clear hb)
    exact ⟨⟨5,by omega,by go_num,HD2,HS2⟩,by simp [intOf]⟩
   ·have n0:(x0 == 0)=false:=by simpa using hz0
    have n1:(x0 != 0)=true:=by simpa using hz0
    have HV:Hz (orW (wrL T)=(x0,x1,x2)):=kz (by rw [(oz HX).1,zaj hz0])
    clear HX
    go_wp2_with (go_at_call 81;refine (oz HC).mono ?_;rintro e w5 ⟨rfl,hb⟩;have HS2:=kz (((oz HS).below hb).below ((Below.refl _ w5).alloc (Nat.le_refl _) (.cells #[.int .i64 x0,.int .i64 x1,.int .i64 x2] 76)));have r0:=(oz HS2).rs.cell 0;have r1:=(oz HS2).rs.cell 1;have r2:=(oz HS2).rs.cell 2;have f0:=(oz HS2).rs.frozen 0;have f1:=(oz HS2).rs.frozen 1;have f2:=(oz HS2).rs.frozen 2;clear hb)
    rw [oz HV]
    exact bodyPost_ret (v:=wrV (x0,x1,x2)) (zco Tryz.results53 rfl (zcw (oz HS2).rs _ _ _) rfl) rfl ⟨rfl,za0 (oz HS2).bl (Nat.le_refl _) (oz HS2).bl.size _ _ _⟩
  ·have g0:=(oz HS).fs.cell 5
   have HC:=kz (zjJ (oz HO) (oz HZ) B wr (oz HS).bk)
   obtain ⟨x,hx⟩:∃ x,zdt T=x:=⟨_,rfl⟩
   have HX:Hz (orW (wrL T)=orW (x::(wrL T).drop 6)∧OkW x):=kz ⟨by rw [oz HD, ← hx];rfl,oz HK x (by rw [← hx];unfold wrL;simp)⟩
   rw [hx] at HC
   clear hx HD
   obtain ⟨x0,x1,x2⟩:=x
   unfold wrV at HC
   dsimp only at HC
   by_cases hz0:x0=0
   ·obtain ⟨h0,hh⟩:=Prod.mk.inj ((oz HX).2 hz0)
    obtain ⟨rfl,rfl⟩:=Prod.mk.inj hh
    subst h0
    have HD2:Hz (orW (wrL T)=orW ((wrL T).drop 6)):=kz (by rw [(oz HX).1,zad rfl])
    clear hz0 hh HX
    go_wp2_with (go_at_call 82;refine (oz HC).mono ?_;rintro e w5 ⟨rfl,hb⟩;have HS2:=kz (((oz HS).below hb).below ((Below.refl _ w5).alloc (Nat.le_refl _) (.cells #[.int .i64 0,.int .i64 0,.int .i64 0] 76)));clear hb)
    exact ⟨⟨6,by omega,by go_num,HD2,HS2⟩,by simp [intOf]⟩
   ·have n0:(x0 == 0)=false:=by simpa using hz0
    have n1:(x0 != 0)=true:=by simpa using hz0
    have HV:Hz (orW (wrL T)=(x0,x1,x2)):=kz (by rw [(oz HX).1,zaj hz0])
    clear HX
    go_wp2_with (go_at_call 82;refine (oz HC).mono ?_;rintro e w5 ⟨rfl,hb⟩;have HS2:=kz (((oz HS).below hb).below ((Below.refl _ w5).alloc (Nat.le_refl _) (.cells #[.int .i64 x0,.int .i64 x1,.int .i64 x2] 76)));have r0:=(oz HS2).rs.cell 0;have r1:=(oz HS2).rs.cell 1;have r2:=(oz HS2).rs.cell 2;have f0:=(oz HS2).rs.frozen 0;have f1:=(oz HS2).rs.frozen 1;have f2:=(oz HS2).rs.frozen 2;clear hb)
    rw [oz HV]
    exact bodyPost_ret (v:=wrV (x0,x1,x2)) (zco Tryz.results53 rfl (zcw (oz HS2).rs _ _ _) rfl) rfl ⟨rfl,za0 (oz HS2).bl (Nat.le_refl _) (oz HS2).bl.size _ _ _⟩
  ·have HV:Hz (orW (wrL T)=(0,0,0)):=kz (by rw [oz HD];rfl)
   have r0:=(oz HS).rs.cell 0
   have r1:=(oz HS).rs.cell 1
   have r2:=(oz HS).rs.cell 2
   have f0:=(oz HS).rs.frozen 0
   have f1:=(oz HS).rs.frozen 1
   have f2:=(oz HS).rs.frozen 2
   clear HD
   go_wp2_with fail
   rw [oz HV]
   exact bodyPost_ret (v:=wrV (0,0,0)) (zco Tryz.results53 rfl (zcw (oz HS).rs _ _ _) rfl) rfl ⟨rfl,za0 (oz HS).bl (Nat.le_refl _) (oz HS).bl.size _ _ _⟩
noncomputable def reg5:Code:=match Tryz.f52.body with
 | some (.seq _ (.seq _ (.seq (.seq _ (.block _ (.loop (.seq _ (.seq _ (.seq (.block _ (.seq _ r)) _)))))) _))) =>r
 | _ =>.skip
set_option maxRecDepth 100000 in
set_option maxHeartbeats 8000000 in
theorem zpb {w wr wb:World} {B k d:Nat} {b:Option Addr} {T:TV} {s1:ByteArray} {s2:List (Int × Int)} {t0 t1 t2 t3 t4 t5 t6 t7:Value} {Bc Bd Ba M5 M6 M7 MF ML:Nat} {sv:Value} {bs:List Nat} {z0 z1 z2 z4 z6 z7 z8 z9 z10 z11 z12 z13 z14 z15 z16 z17 z18 z19 z20 z21 z22 z23 z24 z25 z26 z27 z28 z29 z30 z31 z32 z33 z34 z35 z36 z37 z38 z39 z40 z41 z42 z43 z44 z45 z46 z47 z48 z49 z50 z51 z52 z53 z54 z55 z56 z57 z58 z59 z60 z61 z62 z63 z64 z65 z66 z67 z68 z69 z70 z71 z72 z73 z74 z75 z76 z77 z78 z79 z80 z81 z82 z83 z84 z85 z86 z87 z88 z89 z90 z91 z92 z93 z94 z95 z96 z97 z98 z99 z100:Value} {Q:Exit→Act→World→Prop} (hmx:Tryz.prog.follows .mixedOrders=true) (HS:Hz (ScSt w wr B T t0 t1 t2 t3 t4 t5 t6 t7 Bc Bd Ba M5 M6 M7 MF ML k sv bs)) (HF:Hz (∀ w2,KeptX (fun x =>sv.ownBlock=some x) wb.drew w2→Blk w2 wr.heap.size #[.string s1,.slice b s2.length d] 109∧Blk w2 B (zq8 t0 t1 t2 t3 t4 t5 t6 t7 sv Bc Bd Ba M5 M6 M7 MF ML) 107∧RowC w2 w.heap.size b (zaW s2)))
  (HX:Hz (T.sc[k]?=some (s1,s2)∧zbb s2∧s2.length≤1000000∧RowC wr w.heap.size b (zaW s2))) (HZ:Hz (Below wr.heap.size wr wb.drew∧w.heap.size≤wb.drew.heap.size∧(∀ x,sv.ownBlock=some x→x < wb.drew.heap.size)∧B < w.heap.size)) (hn0:T.sc.length≤1000000) (hkn:k≤T.sc.length)
  (hQ:∀ (U:Nat→Value) (wn:World) (sv2:Value) (bs2:List Nat),Hz (ScSt w wn B T t0 t1 t2 t3 t4 t5 t6 t7 Bc Bd Ba M5 M6 M7 MF ML (k+1) sv2 bs2)→Q .normal { tmps:=#[z0,z1,z2,.pointer (some ⟨B,0,none⟩),z4,.pointer (some ⟨wr.heap.size,0,none⟩),z6,z7,z8,z9,z10,z11,z12,z13,z14,z15,z16,z17,z18,z19,z20,z21,z22,z23,z24,z25,z26,z27,z28,z29,z30,z31,z32,z33,z34,z35,z36,z37,z38,z39,U 0,U 1,U 2,U 3,U 4,U 5,U 6,U 7,U 8,U 9,U 10,U 11,z52,z53,z54,z55,z56,z57,z58,z59,z60,z61,z62,z63,z64,z65,z66,z67,z68,z69,z70,z71,z72,z73,z74,z75,z76,z77,z78,z79,z80,z81,z82,z83,z84,z85,z86,z87,z88,z89,z90,z91,z92,z93,z94,z95,z96,z97,z98,z99,z100],defers := [] } wn) :
  Code.wp Tryz.prog reg5 Q { tmps:=#[z0,z1,z2,.pointer (some ⟨B,0,none⟩),z4,.pointer (some ⟨wr.heap.size,0,none⟩),z6,z7,z8,z9,z10,z11,z12,z13,z14,z15,z16,z17,z18,z19,z20,z21,z22,z23,z24,z25,z26,z27,z28,z29,z30,z31,z32,z33,z34,z35,z36,z37,z38,z39,z40,z41,z42,z43,z44,z45,z46,z47,z48,z49,z50,z51,z52,z53,z54,z55,z56,z57,z58,z59,z60,z61,z62,z63,z64,z65,z66,z67,z68,z69,z70,z71,z72,z73,z74,z75,z76,z77,z78,z79,z80,z81,z82,z83,z84,z85,z86,z87,z88,z89,z90,z91,z92,z93,z94,z95,z96,z97,z98,z99,z100],defers := [] } wb:=by
 have HQ:=kz hQ
 clear hQ
 delta reg5 Tryz.f52
 dsimp only
 refine zao hmx 12 (by decide) (by kernel_rfl) (by kernel_rfl) (fun l a wv => ∃ U:Nat→Value,a = { tmps:=#[z0,z1,z2,.pointer (some ⟨B,0,none⟩),z4,.pointer (some ⟨wr.heap.size,0,none⟩),z6,z7,z8,z9,z10,z11,z12,z13,z14,z15,z16,z17,z18,z19,z20,z21,z22,z23,z24,z25,z26,z27,z28,z29,z30,z31,z32,z33,z34,z35,z36,z37,z38,z39,U 0,U 1,U 2,U 3,U 4,U 5,U 6,U 7,U 8,U 9,U 10,U 11,z52,z53,z54,z55,z56,z57,z58,z59,z60,z61,z62,z63,z64,z65,z66,z67,z68,z69,z70,z71,z72,z73,z74,z75,z76,z77,z78,z79,z80,z81,z82,z83,z84,z85,z86,z87,z88,z89,z90,z91,z92,z93,z94,z95,z96,z97,z98,z99,z100],defers := [] }∧RgX wb.drew (fun x =>sv.ownBlock=some x) (scD B wr.heap.size sv k w.heap.size wb.drew.heap.size bs s2 b d) l U wv∧(l.getD 9 false=false→Below wb.drew.heap.size wb.drew wv)) ⟨fun x =>match x with | 0 =>z40 | 1 =>z41 | 2 =>z42 | 3 =>z43 | 4 =>z44 | 5 =>z45 | 6 =>z46 | 7 =>z47 | 8 =>z48 | 9 =>z49 | 10 =>z50 | _ =>z51,rfl,RgX.start _ _,fun _ =>Below.refl _ _⟩ ?_ ?_
 ·rintro l a wv i ⟨U,rfl,hJ,hJ9⟩ hl hi hif
  have h0:=(mem_ready.1 hi).1
  have hlt:=zdB hl h0
  have HJ:=kz hJ
  have H9:=kz hJ9
  clear hJ hJ9
  replace hlt:i < 13:=hlt
  obtain rfl | rfl | rfl | rfl | rfl | rfl | rfl | rfl | rfl | rfl | rfl | rfl:i=0∨i=1∨i=2∨i=3∨i=4∨i=5∨i=6∨i=7∨i=8∨i=9∨i=10∨i=11:=by omega
  ·refine wpOp_step rfl (fun K hK =>?_)
   clear hl hlt hif
   go_simp
   exact hK _ _ ⟨zaa U 0 _,rfl,(oz HJ).same 0 _ rfl,(fun h9 =>oz H9 (by rwa [getD_set_ne false (show (0:Nat)≠9 by decide)] at h9))⟩
  ·refine wpOp_step rfl (fun K hK =>?_)
   clear hl hlt hif
   go_simp
   exact hK _ _ ⟨zaa U 1 _,rfl,(oz HJ).same 1 _ rfl,(fun h9 =>oz H9 (by rwa [getD_set_ne false (show (1:Nat)≠9 by decide)] at h9))⟩
  ·refine wpOp_step rfl (fun K hK =>?_)
   have d1:U 1=.pointer (some ⟨B,0,none⟩):=(oz HJ).val 1 (zab hi 1 (by kernel_rfl))
   clear hl hlt hif
   go_simp
   exact hK _ _ ⟨zaa U 2 _,(by rw [zac d1];rfl),(oz HJ).same 2 _ rfl,(fun h9 =>oz H9 (by rwa [getD_set_ne false (show (2:Nat)≠9 by decide)] at h9))⟩
  ·refine wpOp_step rfl (fun K hK =>?_)
   have d2:U 2=.pointer (some ⟨B,0,none⟩):=(oz HJ).val 2 (zab hi 2 (by kernel_rfl))
   clear hl hlt hif
   go_simp
   exact hK _ _ ⟨zaa U 3 _,(by rw [zac d2];rfl),(oz HJ).same 3 _ rfl,(fun h9 =>oz H9 (by rwa [getD_set_ne false (show (3:Nat)≠9 by decide)] at h9))⟩
  ·refine wpOp_step rfl (fun K hK =>?_)
   have d3:U 3=.pointer (some ⟨B,8,none⟩):=(oz HJ).val 3 (zab hi 3 (by kernel_rfl))
   have q0:=(oz HF wv (oz HJ).kp).2.1.cell 8
   rw [zjK] at q0
   clear hl hlt hif
   go_simp
   exact hK _ _ ⟨zaa U 4 _,(by rw [zac d3];rfl),(oz HJ).same 4 _ rfl,(fun h9 =>oz H9 (by rwa [getD_set_ne false (show (4:Nat)≠9 by decide)] at h9))⟩
  ·refine wpOp_step rfl (fun K hK =>?_)
   clear hl hlt hif
   go_simp
   exact hK _ _ ⟨zaa U 5 _,rfl,(oz HJ).same 5 _ rfl,(fun h9 =>oz H9 (by rwa [getD_set_ne false (show (5:Nat)≠9 by decide)] at h9))⟩
  ·refine wpOp_step rfl (fun K hK =>?_)
   have d5:U 5=.pointer (some ⟨wr.heap.size,1,none⟩):=(oz HJ).val 5 (zab hi 5 (by kernel_rfl))
   have q0:=(oz HF wv (oz HJ).kp).1.cell 1
   clear hl hlt hif
   go_simp
   exact hK _ _ ⟨zaa U 6 _,(by rw [zac d5];rfl),(oz HJ).same 6 _ rfl,(fun h9 =>oz H9 (by rwa [getD_set_ne false (show (6:Nat)≠9 by decide)] at h9))⟩
  ·refine wpOp_step rfl (fun K hK =>?_)
   have d6:U 6=.slice b s2.length d:=(oz HJ).val 6 (zab hi 6 (by kernel_rfl))
   clear hl hlt hif
   go_simp
   refine (zdV b d s2 (oz HX).2.2.1 (oz HX).2.1 wv (zei (oz HF wv (oz HJ).kp).2.2 (Nat.le_trans (oz HZ).2.1 (oz HJ).kp.size))).mono ?_
   rintro e w' ⟨Bn,rfl,hs,hb⟩
   exact hK _ _ ⟨zaa U 7 _,(by rw [zac d6];rfl),(oz HJ).put 7 _ (zat hb _) (fun j _ _ hD =>zpW hb j _ hD) ⟨Bn,rfl,hs⟩,(fun h9 =>(oz H9 (by rwa [getD_set_ne false (show (7:Nat)≠9 by decide)] at h9)).trans (hb.mono (oz HJ).kp.size))⟩
  ·refine wpOp_step rfl (fun K hK =>?_)
   obtain ⟨Bn,d7,hs7⟩:=(oz HJ).val 7 (zab hi 7 (by kernel_rfl))
   have HS7:=kz hs7
   clear hs7 hl hlt hif
   go_simp
   have hb:Below wv.heap.size wv (wv.alloc (.cells #[.pointer (some ⟨Bn,0,none⟩)] 101)):=(Below.refl _ wv).alloc (Nat.le_refl _) _
   exact hK _ _ ⟨zaa U 8 _,(by rw [zac d7];rfl),(oz HJ).put 8 _ (zat hb _) (fun j _ _ hD =>zpW hb j _ hD) ⟨Bn,_,rfl,(oz HJ).kp.size,(oz HS7).below hb,Blk.new wv _ _⟩,(fun h9 =>(oz H9 (by rwa [getD_set_ne false (show (8:Nat)≠9 by decide)] at h9)).trans (hb.mono (oz HJ).kp.size))⟩
  ·refine wpOp_step rfl (fun K hK =>?_)
   have d4:U 4=sv:=(oz HJ).val 4 (zab hi 4 (by kernel_rfl))
   obtain ⟨Bn,q8,d8,hq8,hs8,hb8⟩:=(oz HJ).val 8 (zab hi 8 (by kernel_rfl))
   have hn9:l.getD 9 false=false:=by rw [← zdu (by rw [hl];decide)];exact h0
   have hrw:=zal (zal (oz HS).row (oz HZ).1) (oz H9 hn9)
   refine zoY rfl _ _ rfl w.heap.size sv k bs d4 hrw q8 Bn d8 hb8 (by omega) (Nat.le_trans (oz HZ).2.1 (oz HJ).kp.size) ?_
   intro g9 cap9 w' hown hg9
   have hkx:=zkx hg9
   exact hK _ _ ⟨zaa U 9 _,rfl,(oz HJ).put 9 _ hkx (fun j _ hj hD =>zqt (zjV hrw) hkx (oz HZ).2.2.1 j _ hj hD) ⟨Bn,g9,cap9,rfl,(zjV hrw).setV hkx hs8,hown⟩,(fun h9 =>by (rw [zhQ (by rw [hl];decide)] at h9;cases h9))⟩
  ·refine wpOp_step rfl (fun K hK =>?_)
   have d0:U 0=.pointer (some ⟨B,0,none⟩):=(oz HJ).val 0 (zab hi 0 (by kernel_rfl))
   clear hl hlt hif
   go_simp
   exact hK _ _ ⟨zaa U 10 _,(by rw [zac d0];rfl),(oz HJ).same 10 _ rfl,(fun h9 =>oz H9 (by rwa [getD_set_ne false (show (10:Nat)≠9 by decide)] at h9))⟩
  ·refine wpOp_step rfl (fun K hK =>?_)
   have d10:U 10=.pointer (some ⟨B,0,none⟩):=(oz HJ).val 10 (zab hi 10 (by kernel_rfl))
   clear hl hlt hif
   go_simp
   exact hK _ _ ⟨zaa U 11 _,(by rw [zac d10];rfl),(oz HJ).same 11 _ rfl,(fun h9 =>oz H9 (by rwa [getD_set_ne false (show (11:Nat)≠9 by decide)] at h9))⟩
 ·rintro l a wv ⟨U,rfl,hJ,_⟩ hall
  obtain ⟨Bn,g9,cap9,d9,hs9,hown⟩:=hJ.val 9 (hall 9 (by decide) (by decide))
  have d11:U 11=.pointer (some ⟨B,8,none⟩):=hJ.val 11 (hall 11 (by decide) (by decide))
  have hbx:=(oz HF wv hJ.kp).2.1
  have f8:=hbx.frozen 8
  have q8:=hbx.cell 8
  rw [zjK] at q8
  have HN:=kz ((oz HS).next (oz HZ).2.2.2 (oz HZ).1 hJ.kp (oz HX).1 hs9 hown)
  clear hJ hall hbx hs9 hown
  refine wpOp_step rfl (fun K hK =>?_)
  go_simp
  have e:=oz HQ U _ _ _ HN
  rw [d9,d11] at e
  exact hK _ _ e
end Go.Proofs.YtmemedpoaocdkaaGreat
