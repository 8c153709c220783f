/- Texts of this claim, one behind the other. -/
import Derived.Test.YtmemedpoaocdkaaGreatM24
namespace Go.Proofs.YtmemedpoaocdkaaGreat
open Go.RowKit Go.Shelf Go.Maps
set_option linter.unusedVariables false
set_option maxRecDepth 100000
set_option maxHeartbeats 8000000
def wrL (T:TV):List (Int × Int × Int) := [zbI T,zc8 T,zb5 T,zca T,zhI T,zcZ T]
theorem zqt (T:TV):∀ x ∈ wrL T,OkW x:=by
 intro x hx
 unfold wrL at hx
 simp only [List.mem_cons,List.not_mem_nil,or_false] at hx
 rcases hx with rfl | rfl | rfl | rfl | rfl | rfl
 ·exact zaJ _ _ _ _
 ·exact zaJ _ _ _ _
 all_goals exact zbu _
structure WrS (W w:World) (B:Nat) (T:TV):Prop where
 bl:Below W.heap.size W w
 rs:Blk w W.heap.size #[.int .i64 0,.int .i64 0,.int .i64 0] 76
 fs:Blk w (W.heap.size+1) #[.func (.func 77) #[.pointer (some ⟨B,0,none⟩)] #[],.func (.func 78) #[.pointer (some ⟨B,0,none⟩)] #[],.func (.func 79) #[.pointer (some ⟨B,0,none⟩)] #[],.func (.func 80) #[.pointer (some ⟨B,0,none⟩)] #[],.func (.func 81) #[.pointer (some ⟨B,0,none⟩)] #[],.func (.func 82) #[.pointer (some ⟨B,0,none⟩)] #[]] 111
 bk:BookAt w B T
theorem WrS.below {W w w':World} {B:Nat} {T:TV} (h:WrS W w B T) (hb:Below w.heap.size w w'):WrS W w' B T:=⟨h.bl.trans (hb.mono h.bl.size),h.rs.below hb h.rs.lt,h.fs.below hb h.fs.lt,h.bk.below hb⟩
theorem zj1 {T:TV} (hO:zav T) (hz:(∀ x ∈ T.fo,x.2.size≤1048576)∧∀ x ∈ T.lk,x.2.size≤1048576) (B:Nat) (W:World) (h:BookAt W B T):Calls Tryz.prog 53 #[.pointer (some ⟨B,0,none⟩)] W fun e w' =>e=.returned (wrV (orW (wrL T)))∧Below W.heap.size W w':=by
 have hmf:∀ (fn:Fn) (first cap:Array Value) (w:World),(Instr.makeFunc fn first cap).run Tryz.prog w=.ok (.func fn first cap) w:=fun _ _ _ _ =>rfl
 have hB0:Below W.heap.size W ((W.alloc (.cells #[.int .i64 0,.int .i64 0,.int .i64 0] 76)).alloc (.cells #[.func (.func 77) #[.pointer (some ⟨B,0,none⟩)] #[],.func (.func 78) #[.pointer (some ⟨B,0,none⟩)] #[],.func (.func 79) #[.pointer (some ⟨B,0,none⟩)] #[],.func (.func 80) #[.pointer (some ⟨B,0,none⟩)] #[],.func (.func 81) #[.pointer (some ⟨B,0,none⟩)] #[],.func (.func 82) #[.pointer (some ⟨B,0,none⟩)] #[]] 111)):=((Below.refl _ W).alloc (Nat.le_refl _) _).alloc (by simp) _
 have bF:Blk ((W.alloc (.cells #[.int .i64 0,.int .i64 0,.int .i64 0] 76)).alloc (.cells #[.func (.func 77) #[.pointer (some ⟨B,0,none⟩)] #[],.func (.func 78) #[.pointer (some ⟨B,0,none⟩)] #[],.func (.func 79) #[.pointer (some ⟨B,0,none⟩)] #[],.func (.func 80) #[.pointer (some ⟨B,0,none⟩)] #[],.func (.func 81) #[.pointer (some ⟨B,0,none⟩)] #[],.func (.func 82) #[.pointer (some ⟨B,0,none⟩)] #[]] 111)) (W.heap.size+1) #[.func (.func 77) #[.pointer (some ⟨B,0,none⟩)] #[],.func (.func 78) #[.pointer (some ⟨B,0,none⟩)] #[],.func (.func 79) #[.pointer (some ⟨B,0,none⟩)] #[],.func (.func 80) #[.pointer (some ⟨B,0,none⟩)] #[],.func (.func 81) #[.pointer (some ⟨B,0,none⟩)] #[],.func (.func 82) #[.pointer (some ⟨B,0,none⟩)] #[]] 111:=by
  have h:=Blk.new (W.alloc (.cells #[.int .i64 0,.int .i64 0,.int .i64 0] 76)) #[.func (.func 77) #[.pointer (some ⟨B,0,none⟩)] #[],.func (.func 78) #[.pointer (some ⟨B,0,none⟩)] #[],.func (.func 79) #[.pointer (some ⟨B,0,none⟩)] #[],.func (.func 80) #[.pointer (some ⟨B,0,none⟩)] #[],.func (.func 81) #[.pointer (some ⟨B,0,none⟩)] #[],.func (.func 82) #[.pointer (some ⟨B,0,none⟩)] #[]] 111
  rw [World.size_alloc] at h
  exact h
 have H0:Hz (WrS W ((W.alloc (.cells #[.int .i64 0,.int .i64 0,.int .i64 0] 76)).alloc (.cells #[.func (.func 77) #[.pointer (some ⟨B,0,none⟩)] #[],.func (.func 78) #[.pointer (some ⟨B,0,none⟩)] #[],.func (.func 79) #[.pointer (some ⟨B,0,none⟩)] #[],.func (.func 80) #[.pointer (some ⟨B,0,none⟩)] #[],.func (.func 81) #[.pointer (some ⟨B,0,none⟩)] #[],.func (.func 82) #[.pointer (some ⟨B,0,none⟩)] #[]] 111)) B T):=kz ⟨hB0,(Blk.new W _ _).alloc _,bF,h.below hB0⟩
 have HO:=kz hO
 have HZ:=kz hz
 have HK:=kz (zqt T)
 clear hB0 bF h hO hz
 go_enter Tryz.func53,Tryz.ntmps53
 go_wp2_with fail
 generalize ((W.alloc (.cells #[.int .i64 0,.int .i64 0,.int .i64 0] 76)).alloc (.cells #[.func (.func 77) #[.pointer (some ⟨B,0,none⟩)] #[],.func (.func 78) #[.pointer (some ⟨B,0,none⟩)] #[],.func (.func 79) #[.pointer (some ⟨B,0,none⟩)] #[],.func (.func 80) #[.pointer (some ⟨B,0,none⟩)] #[],.func (.func 81) #[.pointer (some ⟨B,0,none⟩)] #[],.func (.func 82) #[.pointer (some ⟨B,0,none⟩)] #[]] 111))=u0 at *
 clear hmf
 go_loopw [4,5,20] (fun _ _ s20 wr => ∃ k:Nat,k≤6∧s20=.int .i64 k∧Hz (orW (wrL T)=orW ((wrL T).drop k))∧Hz (WrS W wr B T)) (fun _ _ s20 _ =>6 - (intOf s20).toNat)
 case atStart =>exact ⟨0,Nat.zero_le _,rfl,kz (by rw [List.drop_zero]),H0⟩
 case round =>
  obtain ⟨k,hk,rfl,HD,HS⟩:=hrel
  clear H0
  obtain rfl | rfl | rfl | rfl | rfl | rfl | rfl:k=0∨k=1∨k=2∨k=3∨k=4∨k=5∨k=6:=by omega
  ·have g0:=(oz HS).fs.cell 0
   have HC:=kz (zgO (oz HO) B wr (oz HS).bk)
   obtain ⟨x,hx⟩:∃ x,zbI T=x:=⟨_,rfl⟩
   have HX:Hz (orW (wrL T)=orW (x::(wrL T).drop 1)∧OkW x):=kz ⟨by rw [oz HD, ← hx];rfl,oz HK x (by rw [← hx];unfold wrL;simp)⟩
   rw [hx] at HC
   clear hx HD
   obtain ⟨x0,x1,x2⟩:=x
   unfold wrV at HC
   dsimp only at HC
   by_cases hz0:x0=0
   ·obtain ⟨h0,hh⟩:=Prod.mk.inj ((oz HX).2 hz0)
    obtain ⟨rfl,rfl⟩:=Prod.mk.inj hh
    subst h0
    have HD2:Hz (orW (wrL T)=orW ((wrL T).drop 1)):=kz (by rw [(oz HX).1,zad rfl])
    clear hz0 hh HX
    go_wp2_with (go_at_call 77;refine (oz HC).mono ?_;rintro e w5 ⟨rfl,hb⟩;have HS2:=kz (((oz HS).below hb).below ((Below.refl _ w5).alloc (Nat.le_refl _) (.cells #[.int .i64 0,.int .i64 0,.int .i64 0] 76)));clear hb)
    exact ⟨⟨1,by omega,by go_num,HD2,HS2⟩,by simp [intOf]⟩
   ·have n0:(x0 == 0)=false:=by simpa using hz0
    have n1:(x0 != 0)=true:=by simpa using hz0
    have HV:Hz (orW (wrL T)=(x0,x1,x2)):=kz (by rw [(oz HX).1,zai hz0])
    clear HX
    go_wp2_with (go_at_call 77;refine (oz HC).mono ?_;rintro e w5 ⟨rfl,hb⟩;have HS2:=kz (((oz HS).below hb).below ((Below.refl _ w5).alloc (Nat.le_refl _) (.cells #[.int .i64 x0,.int .i64 x1,.int .i64 x2] 76)));have r0:=(oz HS2).rs.cell 0;have r1:=(oz HS2).rs.cell 1;have r2:=(oz HS2).rs.cell 2;have f0:=(oz HS2).rs.frozen 0;have f1:=(oz HS2).rs.frozen 1;have f2:=(oz HS2).rs.frozen 2;clear hb)
    rw [oz HV]
    exact bodyPost_ret (v:=wrV (x0,x1,x2)) (zb8 Tryz.results53 rfl (zcf (oz HS2).rs _ _ _) rfl) rfl ⟨rfl,zaW (oz HS2).bl (Nat.le_refl _) (oz HS2).bl.size _ _ _⟩
  ·have g0:=(oz HS).fs.cell 1
   have HC:=kz (zij (oz HO) B wr (oz HS).bk)
   obtain ⟨x,hx⟩:∃ x,zc8 T=x:=⟨_,rfl⟩
   have HX:Hz (orW (wrL T)=orW (x::(wrL T).drop 2)∧OkW x):=kz ⟨by rw [oz HD, ← hx];rfl,oz HK x (by rw [← hx];unfold wrL;simp)⟩
   rw [hx] at HC
   clear hx HD
   obtain ⟨x0,x1,x2⟩:=x
   unfold wrV at HC
   dsimp only at HC
   by_cases hz0:x0=0
   ·obtain ⟨h0,hh⟩:=Prod.mk.inj ((oz HX).2 hz0)
    obtain ⟨rfl,rfl⟩:=Prod.mk.inj hh
    subst h0
    have HD2:Hz (orW (wrL T)=orW ((wrL T).drop 2)):=kz (by rw [(oz HX).1,zad rfl])
    clear hz0 hh HX
    go_wp2_with (go_at_call 78;refine (oz HC).mono ?_;rintro e w5 ⟨rfl,hb⟩;have HS2:=kz (((oz HS).below hb).below ((Below.refl _ w5).alloc (Nat.le_refl _) (.cells #[.int .i64 0,.int .i64 0,.int .i64 0] 76)));clear hb)
    exact ⟨⟨2,by omega,by go_num,HD2,HS2⟩,by simp [intOf]⟩
   ·have n0:(x0 == 0)=false:=by simpa using hz0
    have n1:(x0 != 0)=true:=by simpa using hz0
    have HV:Hz (orW (wrL T)=(x0,x1,x2)):=kz (by rw [(oz HX).1,zai hz0])
    clear HX
    go_wp2_with (go_at_call 78;refine (oz HC).mono ?_;rintro e w5 ⟨rfl,hb⟩;have HS2:=kz (((oz HS).below hb).below ((Below.refl _ w5).alloc (Nat.le_refl _) (.cells #[.int .i64 x0,.int .i64 x1,.int .i64 x2] 76)));have r0:=(oz HS2).rs.cell 0;have r1:=(oz HS2).rs.cell 1;have r2:=(oz HS2).rs.cell 2;have f0:=(oz HS2).rs.frozen 0;have f1:=(oz HS2).rs.frozen 1;have f2:=(oz HS2).rs.frozen 2;clear hb)
    rw [oz HV]
    exact bodyPost_ret (v:=wrV (x0,x1,x2)) (zb8 Tryz.results53 rfl (zcf (oz HS2).rs _ _ _) rfl) rfl ⟨rfl,zaW (oz HS2).bl (Nat.le_refl _) (oz HS2).bl.size _ _ _⟩
  ·have g0:=(oz HS).fs.cell 2
   have HC:=kz (zi1 (oz HO) B wr (oz HS).bk)
   obtain ⟨x,hx⟩:∃ x,zb5 T=x:=⟨_,rfl⟩
   have HX:Hz (orW (wrL T)=orW (x::(wrL T).drop 3)∧OkW x):=kz ⟨by rw [oz HD, ← hx];rfl,oz HK x (by rw [← hx];unfold wrL;simp)⟩
   rw [hx] at HC
   clear hx HD
   obtain ⟨x0,x1,x2⟩:=x
   unfold wrV at HC
   dsimp only at HC
   by_cases hz0:x0=0
   ·obtain ⟨h0,hh⟩:=Prod.mk.inj ((oz HX).2 hz0)
    obtain ⟨rfl,rfl⟩:=Prod.mk.inj hh
    subst h0
    have HD2:Hz (orW (wrL T)=orW ((wrL T).drop 3)):=kz (by rw [(oz HX).1,zad rfl])
    clear hz0 hh HX
    go_wp2_with (go_at_call 79;refine (oz HC).mono ?_;rintro e w5 ⟨rfl,hb⟩;have HS2:=kz (((oz HS).below hb).below ((Below.refl _ w5).alloc (Nat.le_refl _) (.cells #[.int .i64 0,.int .i64 0,.int .i64 0] 76)));clear hb)
    exact ⟨⟨3,by omega,by go_num,HD2,HS2⟩,by simp [intOf]⟩
   ·have n0:(x0 == 0)=false:=by simpa using hz0
    have n1:(x0 != 0)=true:=by simpa using hz0
    have HV:Hz (orW (wrL T)=(x0,x1,x2)):=kz (by rw [(oz HX).1,zai hz0])
    clear HX
    go_wp2_with (go_at_call 79;refine (oz HC).mono ?_;rintro e w5 ⟨rfl,hb⟩;have HS2:=kz (((oz HS).below hb).below ((Below.refl _ w5).alloc (Nat.le_refl _) (.cells #[.int .i64 x0,.int .i64 x1,.int .i64 x2] 76)));have r0:=(oz HS2).rs.cell 0;have r1:=(oz HS2).rs.cell 1;have r2:=(oz HS2).rs.cell 2;have f0:=(oz HS2).rs.frozen 0;have f1:=(oz HS2).rs.frozen 1;have f2:=(oz HS2).rs.frozen 2;clear hb)
    rw [oz HV]
    exact bodyPost_ret (v:=wrV (x0,x1,x2)) (zb8 Tryz.results53 rfl (zcf (oz HS2).rs _ _ _) rfl) rfl ⟨rfl,zaW (oz HS2).bl (Nat.le_refl _) (oz HS2).bl.size _ _ _⟩
  ·have g0:=(oz HS).fs.cell 3
   have HC:=kz (ze6 (oz HO) B wr (oz HS).bk)
   obtain ⟨x,hx⟩:∃ x,zca T=x:=⟨_,rfl⟩
   have HX:Hz (orW (wrL T)=orW (x::(wrL T).drop 4)∧OkW x):=kz ⟨by rw [oz HD, ← hx];rfl,oz HK x (by rw [← hx];unfold wrL;simp)⟩
   rw [hx] at HC
   clear hx HD
   obtain ⟨x0,x1,x2⟩:=x
   unfold wrV at HC
   dsimp only at HC
   by_cases hz0:x0=0
   ·obtain ⟨h0,hh⟩:=Prod.mk.inj ((oz HX).2 hz0)
    obtain ⟨rfl,rfl⟩:=Prod.mk.inj hh
    subst h0
    have HD2:Hz (orW (wrL T)=orW ((wrL T).drop 4)):=kz (by rw [(oz HX).1,zad rfl])
    clear hz0 hh HX
    go_wp2_with (go_at_call 80;refine (oz HC).mono ?_;rintro e w5 ⟨rfl,hb⟩;have HS2:=kz (((oz HS).below hb).below ((Below.refl _ w5).alloc (Nat.le_refl _) (.cells #[.int .i64 0,.int .i64 0,.int .i64 0] 76)));clear hb)
    exact ⟨⟨4,by omega,by go_num,HD2,HS2⟩,by simp [intOf]⟩
   ·have n0:(x0 == 0)=false:=by simpa using hz0
    have n1:(x0 != 0)=true:=by simpa using hz0
    have HV:Hz (orW (wrL T)=(x0,x1,x2)):=kz (by rw [(oz HX).1,zai hz0])
    clear HX
    go_wp2_with (go_at_call 80;refine (oz HC).mono ?_;rintro e w5 ⟨rfl,hb⟩;have HS2:=kz (((oz HS).below hb).below ((Below.refl _ w5).alloc (Nat.le_refl _) (.cells #[.int .i64 x0,.int .i64 x1,.int .i64 x2] 76)));have r0:=(oz HS2).rs.cell 0;have r1:=(oz HS2).rs.cell 1;have r2:=(oz HS2).rs.cell 2;have f0:=(oz HS2).rs.frozen 0;have f1:=(oz HS2).rs.frozen 1;have f2:=(oz HS2).rs.frozen 2;clear hb)
    rw [oz HV]
    exact bodyPost_ret (v:=wrV (x0,x1,x2)) (zb8 Tryz.results53 rfl (zcf (oz HS2).rs _ _ _) rfl) rfl ⟨rfl,zaW (oz HS2).bl (Nat.le_refl _) (oz HS2).bl.size _ _ _⟩
  ·have g0:=(oz HS).fs.cell 4
   have HC:=kz (zfS (oz HO) (oz HZ) B wr (oz HS).bk)
   obtain ⟨x,hx⟩:∃ x,zhI T=x:=⟨_,rfl⟩
   have HX:Hz (orW (wrL T)=orW (x::(wrL T).drop 5)∧OkW x):=kz ⟨by rw [oz HD, ← hx];rfl,oz HK x (by rw [← hx];unfold wrL;simp)⟩
   rw [hx] at HC
   clear hx HD
   obtain ⟨x0,x1,x2⟩:=x
   unfold wrV at HC
   dsimp only at HC
   by_cases hz0:x0=0
   ·obtain ⟨h0,hh⟩:=Prod.mk.inj ((oz HX).2 hz0)
    obtain ⟨rfl,rfl⟩:=Prod.mk.inj hh
    subst h0
    have HD2:Hz (orW (wrL T)=orW ((wrL T).drop 5)):=kz (by rw [(oz HX).1,zad rfl])
    clear hz0 hh HX
    go_wp2_with (go_at_call 81;refine (oz HC).mono ?_;rintro e w5 ⟨rfl,hb⟩;have HS2:=kz (((oz HS).below hb).below ((Below.refl _ w5).alloc (Nat.le_refl _) (.cells #[.int .i64 0,.int .i64 0,.int .i64 0] 76)));clear hb)
    exact ⟨⟨5,by omega,by go_num,HD2,HS2⟩,by simp [intOf]⟩
   ·have n0:(x0 == 0)=false:=by simpa using hz0
    have n1:(x0 != 0)=true:=by simpa using hz0
    have HV:Hz (orW (wrL T)=(x0,x1,x2)):=kz (by rw [(oz HX).1,zai hz0])
    clear HX
    go_wp2_with (go_at_call 81;refine (oz HC).mono ?_;rintro e w5 ⟨rfl,hb⟩;have HS2:=kz (((oz HS).below hb).below ((Below.refl _ w5).alloc (Nat.le_refl _) (.cells #[.int .i64 x0,.int .i64 x1,.int .i64 x2] 76)));have r0:=(oz HS2).rs.cell 0;have r1:=(oz HS2).rs.cell 1;have r2:=(oz HS2).rs.cell 2;have f0:=(oz HS2).rs.frozen 0;have f1:=(oz HS2).rs.frozen 1;have f2:=(oz HS2).rs.frozen 2;clear hb)
    rw [oz HV]
    exact bodyPost_ret (v:=wrV (x0,x1,x2)) (zb8 Tryz.results53 rfl (zcf (oz HS2).rs _ _ _) rfl) rfl ⟨rfl,zaW (oz HS2).bl (Nat.le_refl _) (oz HS2).bl.size _ _ _⟩
  ·have g0:=(oz HS).fs.cell 5
   have HC:=kz (zi2 (oz HO) (oz HZ) B wr (oz HS).bk)
   obtain ⟨x,hx⟩:∃ x,zcZ T=x:=⟨_,rfl⟩
   have HX:Hz (orW (wrL T)=orW (x::(wrL T).drop 6)∧OkW x):=kz ⟨by rw [oz HD, ← hx];rfl,oz HK x (by rw [← hx];unfold wrL;simp)⟩
   rw [hx] at HC
   clear hx HD
   obtain ⟨x0,x1,x2⟩:=x
   unfold wrV at HC
   dsimp only at HC
   by_cases hz0:x0=0
   ·obtain ⟨h0,hh⟩:=Prod.mk.inj ((oz HX).2 hz0)
    obtain ⟨rfl,rfl⟩:=Prod.mk.inj hh
    subst h0
    have HD2:Hz (orW (wrL T)=orW ((wrL T).drop 6)):=kz (by rw [(oz HX).1,zad rfl])
    clear hz0 hh HX
    go_wp2_with (go_at_call 82;refine (oz HC).mono ?_;rintro e w5 ⟨rfl,hb⟩;have HS2:=kz (((oz HS).below hb).below ((Below.refl _ w5).alloc (Nat.le_refl _) (.cells #[.int .i64 0,.int .i64 0,.int .i64 0] 76)));clear hb)
    exact ⟨⟨6,by omega,by go_num,HD2,HS2⟩,by simp [intOf]⟩
   ·have n0:(x0 == 0)=false:=by simpa using hz0
    have n1:(x0 != 0)=true:=by simpa using hz0
    have HV:Hz (orW (wrL T)=(x0,x1,x2)):=kz (by rw [(oz HX).1,zai hz0])
    clear HX
    go_wp2_with (go_at_call 82;refine (oz HC).mono ?_;rintro e w5 ⟨rfl,hb⟩;have HS2:=kz (((oz HS).below hb).below ((Below.refl _ w5).alloc (Nat.le_refl _) (.cells #[.int .i64 x0,.int .i64 x1,.int .i64 x2] 76)));have r0:=(oz HS2).rs.cell 0;have r1:=(oz HS2).rs.cell 1;have r2:=(oz HS2).rs.cell 2;have f0:=(oz HS2).rs.frozen 0;have f1:=(oz HS2).rs.frozen 1;have f2:=(oz HS2).rs.frozen 2;clear hb)
    rw [oz HV]
    exact bodyPost_ret (v:=wrV (x0,x1,x2)) (zb8 Tryz.results53 rfl (zcf (oz HS2).rs _ _ _) rfl) rfl ⟨rfl,zaW (oz HS2).bl (Nat.le_refl _) (oz HS2).bl.size _ _ _⟩
  ·have HV:Hz (orW (wrL T)=(0,0,0)):=kz (by rw [oz HD];rfl)
   have r0:=(oz HS).rs.cell 0
   have r1:=(oz HS).rs.cell 1
   have r2:=(oz HS).rs.cell 2
   have f0:=(oz HS).rs.frozen 0
   have f1:=(oz HS).rs.frozen 1
   have f2:=(oz HS).rs.frozen 2
   clear HD
   go_wp2_with fail
   rw [oz HV]
   exact bodyPost_ret (v:=wrV (0,0,0)) (zb8 Tryz.results53 rfl (zcf (oz HS).rs _ _ _) rfl) rfl ⟨rfl,zaW (oz HS).bl (Nat.le_refl _) (oz HS).bl.size _ _ _⟩
noncomputable def reg5:Code:=match Tryz.f52.body with
 | some (.seq _ (.seq _ (.seq (.seq _ (.block _ (.loop (.seq _ (.seq _ (.seq (.block _ (.seq _ r)) _)))))) _))) =>r
 | _ =>.skip
theorem zoB {w wr wb:World} {B k d:Nat} {b:Option Addr} {T:TV} {s1:ByteArray} {s2:List (Int × Int)} {t0 t1 t2 t3 t4 t5 t6 t7:Value} {Bc Bd Ba M5 M6 M7 MF ML:Nat} {sv:Value} {bs:List Nat} {z0 z1 z2 z4 z6 z7 z8 z9 z10 z11 z12 z13 z14 z15 z16 z17 z18 z19 z20 z21 z22 z23 z24 z25 z26 z27 z28 z29 z30 z31 z32 z33 z34 z35 z36 z37 z38 z39 z40 z41 z42 z43 z44 z45 z46 z47 z48 z49 z50 z51 z52 z53 z54 z55 z56 z57 z58 z59 z60 z61 z62 z63 z64 z65 z66 z67 z68 z69 z70 z71 z72 z73 z74 z75 z76 z77 z78 z79 z80 z81 z82 z83 z84 z85 z86 z87 z88 z89 z90 z91 z92 z93 z94 z95 z96 z97 z98 z99 z100:Value} {Q:Exit→Act→World→Prop} (hmx:Tryz.prog.follows .mixedOrders=true) (HS:Hz (ScSt w wr B T t0 t1 t2 t3 t4 t5 t6 t7 Bc Bd Ba M5 M6 M7 MF ML k sv bs)) (HF:Hz (∀ w2,KeptX (fun x =>sv.ownBlock=some x) wb.drew w2→Blk w2 wr.heap.size #[.string s1,.slice b s2.length d] 109∧Blk w2 B (zql t0 t1 t2 t3 t4 t5 t6 t7 sv Bc Bd Ba M5 M6 M7 MF ML) 107∧RowC w2 w.heap.size b (zaQ s2)))
  (HX:Hz (T.sc[k]?=some (s1,s2)∧za8 s2∧s2.length≤1000000∧RowC wr w.heap.size b (zaQ s2))) (HZ:Hz (Below wr.heap.size wr wb.drew∧w.heap.size≤wb.drew.heap.size∧(∀ x,sv.ownBlock=some x→x < wb.drew.heap.size)∧B < w.heap.size)) (hn0:T.sc.length≤1000000) (hkn:k≤T.sc.length)
  (hQ:∀ (U:Nat→Value) (wn:World) (sv2:Value) (bs2:List Nat),Hz (ScSt w wn B T t0 t1 t2 t3 t4 t5 t6 t7 Bc Bd Ba M5 M6 M7 MF ML (k+1) sv2 bs2)→Q .normal { tmps:=#[z0,z1,z2,.pointer (some ⟨B,0,none⟩),z4,.pointer (some ⟨wr.heap.size,0,none⟩),z6,z7,z8,z9,z10,z11,z12,z13,z14,z15,z16,z17,z18,z19,z20,z21,z22,z23,z24,z25,z26,z27,z28,z29,z30,z31,z32,z33,z34,z35,z36,z37,z38,z39,U 0,U 1,U 2,U 3,U 4,U 5,U 6,U 7,U 8,U 9,U 10,U 11,z52,z53,z54,z55,z56,z57,z58,z59,z60,z61,z62,z63,z64,z65,z66,z67,z68,z69,z70,z71,z72,z73,z74,z75,z76,z77,z78,z79,z80,z81,z82,z83,z84,z85,z86,z87,z88,z89,z90,z91,z92,z93,z94,z95,z96,z97,z98,z99,z100],defers := [] } wn) :
  Code.wp Tryz.prog reg5 Q { tmps:=#[z0,z1,z2,.pointer (some ⟨B,0,none⟩),z4,.pointer (some ⟨wr.heap.size,0,none⟩),z6,z7,z8,z9,z10,z11,z12,z13,z14,z15,z16,z17,z18,z19,z20,z21,z22,z23,z24,z25,z26,z27,z28,z29,z30,z31,z32,z33,z34,z35,z36,z37,z38,z39,z40,z41,z42,z43,z44,z45,z46,z47,z48,z49,z50,z51,z52,z53,z54,z55,z56,z57,z58,z59,z60,z61,z62,z63,z64,z65,z66,z67,z68,z69,z70,z71,z72,z73,z74,z75,z76,z77,z78,z79,z80,z81,z82,z83,z84,z85,z86,z87,z88,z89,z90,z91,z92,z93,z94,z95,z96,z97,z98,z99,z100],defers := [] } wb:=by
 have HQ:=kz hQ
 clear hQ
 delta reg5 Tryz.f52
 dsimp only
 refine zao hmx 12 (by decide) (by kernel_rfl) (by kernel_rfl) (fun l a wv => ∃ U:Nat→Value,a = { tmps:=#[z0,z1,z2,.pointer (some ⟨B,0,none⟩),z4,.pointer (some ⟨wr.heap.size,0,none⟩),z6,z7,z8,z9,z10,z11,z12,z13,z14,z15,z16,z17,z18,z19,z20,z21,z22,z23,z24,z25,z26,z27,z28,z29,z30,z31,z32,z33,z34,z35,z36,z37,z38,z39,U 0,U 1,U 2,U 3,U 4,U 5,U 6,U 7,U 8,U 9,U 10,U 11,z52,z53,z54,z55,z56,z57,z58,z59,z60,z61,z62,z63,z64,z65,z66,z67,z68,z69,z70,z71,z72,z73,z74,z75,z76,z77,z78,z79,z80,z81,z82,z83,z84,z85,z86,z87,z88,z89,z90,z91,z92,z93,z94,z95,z96,z97,z98,z99,z100],defers := [] }∧RgX wb.drew (fun x =>sv.ownBlock=some x) (scD B wr.heap.size sv k w.heap.size wb.drew.heap.size bs s2 b d) l U wv∧(l.getD 9 false=false→Below wb.drew.heap.size wb.drew wv)) ⟨fun x =>match x with | 0 =>z40 | 1 =>z41 | 2 =>z42 | 3 =>z43 | 4 =>z44 | 5 =>z45 | 6 =>z46 | 7 =>z47 | 8 =>z48 | 9 =>z49 | 10 =>z50 | _ =>z51,rfl,RgX.start _ _,fun _ =>Below.refl _ _⟩ ?_ ?_
 ·rintro l a wv i ⟨U,rfl,hJ,hJ9⟩ hl hi hif
  have h0:=(mem_ready.1 hi).1
  have hlt:=zc9 hl h0
  have HJ:=kz hJ
  have H9:=kz hJ9
  clear hJ hJ9
  replace hlt:i < 13:=hlt
  obtain rfl | rfl | rfl | rfl | rfl | rfl | rfl | rfl | rfl | rfl | rfl | rfl:i=0∨i=1∨i=2∨i=3∨i=4∨i=5∨i=6∨i=7∨i=8∨i=9∨i=10∨i=11:=by omega
  ·refine wpOp_step rfl (fun K hK =>?_)
   clear hl hlt hif
   go_simp
   exact hK _ _ ⟨zaa U 0 _,rfl,(oz HJ).same 0 _ rfl,(fun h9 =>oz H9 (by rwa [getD_set_ne false (show (0:Nat)≠9 by decide)] at h9))⟩
  ·refine wpOp_step rfl (fun K hK =>?_)
   clear hl hlt hif
   go_simp
   exact hK _ _ ⟨zaa U 1 _,rfl,(oz HJ).same 1 _ rfl,(fun h9 =>oz H9 (by rwa [getD_set_ne false (show (1:Nat)≠9 by decide)] at h9))⟩
  ·refine wpOp_step rfl (fun K hK =>?_)
   have d1:U 1=.pointer (some ⟨B,0,none⟩):=(oz HJ).val 1 (zab hi 1 (by kernel_rfl))
   clear hl hlt hif
   go_simp
   exact hK _ _ ⟨zaa U 2 _,(by rw [zac d1];rfl),(oz HJ).same 2 _ rfl,(fun h9 =>oz H9 (by rwa [getD_set_ne false (show (2:Nat)≠9 by decide)] at h9))⟩
  ·refine wpOp_step rfl (fun K hK =>?_)
   have d2:U 2=.pointer (some ⟨B,0,none⟩):=(oz HJ).val 2 (zab hi 2 (by kernel_rfl))
   clear hl hlt hif
   go_simp
   exact hK _ _ ⟨zaa U 3 _,(by rw [zac d2];rfl),(oz HJ).same 3 _ rfl,(fun h9 =>oz H9 (by rwa [getD_set_ne false (show (3:Nat)≠9 by decide)] at h9))⟩
  ·refine wpOp_step rfl (fun K hK =>?_)
   have d3:U 3=.pointer (some ⟨B,8,none⟩):=(oz HJ).val 3 (zab hi 3 (by kernel_rfl))
   have q0:=(oz HF wv (oz HJ).kp).2.1.cell 8
   rw [zpo] at q0
   clear hl hlt hif
   go_simp
   exact hK _ _ ⟨zaa U 4 _,(by rw [zac d3];rfl),(oz HJ).same 4 _ rfl,(fun h9 =>oz H9 (by rwa [getD_set_ne false (show (4:Nat)≠9 by decide)] at h9))⟩
  ·refine wpOp_step rfl (fun K hK =>?_)
   clear hl hlt hif
   go_simp
   exact hK _ _ ⟨zaa U 5 _,rfl,(oz HJ).same 5 _ rfl,(fun h9 =>oz H9 (by rwa [getD_set_ne false (show (5:Nat)≠9 by decide)] at h9))⟩
  ·refine wpOp_step rfl (fun K hK =>?_)
   have d5:U 5=.pointer (some ⟨wr.heap.size,1,none⟩):=(oz HJ).val 5 (zab hi 5 (by kernel_rfl))
   have q0:=(oz HF wv (oz HJ).kp).1.cell 1
   clear hl hlt hif
   go_simp
   exact hK _ _ ⟨zaa U 6 _,(by rw [zac d5];rfl),(oz HJ).same 6 _ rfl,(fun h9 =>oz H9 (by rwa [getD_set_ne false (show (6:Nat)≠9 by decide)] at h9))⟩
  ·refine wpOp_step rfl (fun K hK =>?_)
   have d6:U 6=.slice b s2.length d:=(oz HJ).val 6 (zab hi 6 (by kernel_rfl))
   clear hl hlt hif
   go_simp
   refine (zdr b d s2 (oz HX).2.2.1 (oz HX).2.1 wv (zdJ (oz HF wv (oz HJ).kp).2.2 (Nat.le_trans (oz HZ).2.1 (oz HJ).kp.size))).mono ?_
   rintro e w' ⟨Bn,rfl,hs,hb⟩
   exact hK _ _ ⟨zaa U 7 _,(by rw [zac d6];rfl),(oz HJ).put 7 _ (zaw hb _) (fun j _ _ hD =>zpg hb j _ hD) ⟨Bn,rfl,hs⟩,(fun h9 =>(oz H9 (by rwa [getD_set_ne false (show (7:Nat)≠9 by decide)] at h9)).trans (hb.mono (oz HJ).kp.size))⟩
  ·refine wpOp_step rfl (fun K hK =>?_)
   obtain ⟨Bn,d7,hs7⟩:=(oz HJ).val 7 (zab hi 7 (by kernel_rfl))
   have HS7:=kz hs7
   clear hs7 hl hlt hif
   go_simp
   have hb:Below wv.heap.size wv (wv.alloc (.cells #[.pointer (some ⟨Bn,0,none⟩)] 101)):=(Below.refl _ wv).alloc (Nat.le_refl _) _
   exact hK _ _ ⟨zaa U 8 _,(by rw [zac d7];rfl),(oz HJ).put 8 _ (zaw hb _) (fun j _ _ hD =>zpg hb j _ hD) ⟨Bn,_,rfl,(oz HJ).kp.size,(oz HS7).below hb,Blk.new wv _ _⟩,(fun h9 =>(oz H9 (by rwa [getD_set_ne false (show (8:Nat)≠9 by decide)] at h9)).trans (hb.mono (oz HJ).kp.size))⟩
  ·refine wpOp_step rfl (fun K hK =>?_)
   have d4:U 4=sv:=(oz HJ).val 4 (zab hi 4 (by kernel_rfl))
   obtain ⟨Bn,q8,d8,hq8,hs8,hb8⟩:=(oz HJ).val 8 (zab hi 8 (by kernel_rfl))
   have hn9:l.getD 9 false=false:=by rw [← zc0 (by rw [hl];decide)];exact h0
   have hrw:=zaq (zaq (oz HS).row (oz HZ).1) (oz H9 hn9)
   refine zoq rfl _ _ rfl w.heap.size sv k bs d4 hrw q8 Bn d8 hb8 (by omega) (Nat.le_trans (oz HZ).2.1 (oz HJ).kp.size) ?_
   intro g9 cap9 w' hown hg9
   have hkx:=zjO hg9
   exact hK _ _ ⟨zaa U 9 _,rfl,(oz HJ).put 9 _ hkx (fun j _ hj hD =>zpH (zjb hrw) hkx (oz HZ).2.2.1 j _ hj hD) ⟨Bn,g9,cap9,rfl,(zjb hrw).setV hkx hs8,hown⟩,(fun h9 =>by (rw [zg3 (by rw [hl];decide)] at h9;cases h9))⟩
  ·refine wpOp_step rfl (fun K hK =>?_)
   have d0:U 0=.pointer (some ⟨B,0,none⟩):=(oz HJ).val 0 (zab hi 0 (by kernel_rfl))
   clear hl hlt hif
   go_simp
   exact hK _ _ ⟨zaa U 10 _,(by rw [zac d0];rfl),(oz HJ).same 10 _ rfl,(fun h9 =>oz H9 (by rwa [getD_set_ne false (show (10:Nat)≠9 by decide)] at h9))⟩
  ·refine wpOp_step rfl (fun K hK =>?_)
   have d10:U 10=.pointer (some ⟨B,0,none⟩):=(oz HJ).val 10 (zab hi 10 (by kernel_rfl))
   clear hl hlt hif
   go_simp
   exact hK _ _ ⟨zaa U 11 _,(by rw [zac d10];rfl),(oz HJ).same 11 _ rfl,(fun h9 =>oz H9 (by rwa [getD_set_ne false (show (11:Nat)≠9 by decide)] at h9))⟩
 ·rintro l a wv ⟨U,rfl,hJ,_⟩ hall
  obtain ⟨Bn,g9,cap9,d9,hs9,hown⟩:=hJ.val 9 (hall 9 (by decide) (by decide))
  have d11:U 11=.pointer (some ⟨B,8,none⟩):=hJ.val 11 (hall 11 (by decide) (by decide))
  have hbx:=(oz HF wv hJ.kp).2.1
  have f8:=hbx.frozen 8
  have q8:=hbx.cell 8
  rw [zpo] at q8
  have HN:=kz ((oz HS).next (oz HZ).2.2.2 (oz HZ).1 hJ.kp (oz HX).1 hs9 hown)
  clear hJ hall hbx hs9 hown
  refine wpOp_step rfl (fun K hK =>?_)
  go_simp
  have e:=oz HQ U _ _ _ HN
  rw [d9,d11] at e
  exact hK _ _ e
theorem zlo (T:TV) (hO:zrK T) (a0 a1 a2 a3 a4 a5 a6 a7:Option Addr) (c0 c1 c2 c3 c4 c5 c6 c7:Nat) (us:List Value) (W:World) (hT:TabIn W T a0 a1 a2 a3 a4 a5 a6 a7 us) :
  Calls Tryz.prog 52 #[.agg #[.slice a0 T.sc.length c0,.slice a1 T.co.length c1,.slice a2 T.ma.length c2,.slice a3 T.pr.length c3,.slice a4 T.fo.length c4,.slice a5 T.lk.length c5,.slice a6 T.dr.length c6,.slice a7 T.al.length c7]] W fun e w' => ∃ B,e=.returned (.pointer (some ⟨B,0,none⟩))∧W.heap.size≤B∧BookAt w' B T∧Below W.heap.size W w':=by
 have hmx:Tryz.prog.follows .mixedOrders=true:=by kernel_rfl
 have hmm:=@run_makeMap Tryz.prog
 have hB0:Below W.heap.size W (W.alloc (.cells #[.slice a0 T.sc.length c0,.slice a1 T.co.length c1,.slice a2 T.ma.length c2,.slice a3 T.pr.length c3,.slice a4 T.fo.length c4,.slice a5 T.lk.length c5,.slice a6 T.dr.length c6,.slice a7 T.al.length c7] 28)).drew:=((Below.refl _ W).alloc (Nat.le_refl _) _).trans ⟨rfl,rfl,rfl,Nat.le_refl _,fun _ _ =>rfl⟩
 have bP:Blk (W.alloc (.cells #[.slice a0 T.sc.length c0,.slice a1 T.co.length c1,.slice a2 T.ma.length c2,.slice a3 T.pr.length c3,.slice a4 T.fo.length c4,.slice a5 T.lk.length c5,.slice a6 T.dr.length c6,.slice a7 T.al.length c7] 28)).drew W.heap.size #[.slice a0 T.sc.length c0,.slice a1 T.co.length c1,.slice a2 T.ma.length c2,.slice a3 T.pr.length c3,.slice a4 T.fo.length c4,.slice a5 T.lk.length c5,.slice a6 T.dr.length c6,.slice a7 T.al.length c7] 28:=Blk.new W #[.slice a0 T.sc.length c0,.slice a1 T.co.length c1,.slice a2 T.ma.length c2,.slice a3 T.pr.length c3,.slice a4 T.fo.length c4,.slice a5 T.lk.length c5,.slice a6 T.dr.length c6,.slice a7 T.al.length c7] 28
 have HS1:Hz ((W.alloc (.cells #[.slice a0 T.sc.length c0,.slice a1 T.co.length c1,.slice a2 T.ma.length c2,.slice a3 T.pr.length c3,.slice a4 T.fo.length c4,.slice a5 T.lk.length c5,.slice a6 T.dr.length c6,.slice a7 T.al.length c7] 28)).drew.heap.size=W.heap.size+1):=kz (by show (W.alloc (.cells #[.slice a0 T.sc.length c0,.slice a1 T.co.length c1,.slice a2 T.ma.length c2,.slice a3 T.pr.length c3,.slice a4 T.fo.length c4,.slice a5 T.lk.length c5,.slice a6 T.dr.length c6,.slice a7 T.al.length c7] 28)).heap.size=_;simp)
 have hF:BoF (W.alloc (.cells #[.slice a0 T.sc.length c0,.slice a1 T.co.length c1,.slice a2 T.ma.length c2,.slice a3 T.pr.length c3,.slice a4 T.fo.length c4,.slice a5 T.lk.length c5,.slice a6 T.dr.length c6,.slice a7 T.al.length c7] 28)).drew W.heap.size T a0 a1 a2 a3 a4 a5 a6 a7 c0 c1 c2 c3 c4 c5 c6 c7 us:=⟨bP,hT.lower hB0⟩
 have HF:Hz (∀ w1,Below (W.alloc (.cells #[.slice a0 T.sc.length c0,.slice a1 T.co.length c1,.slice a2 T.ma.length c2,.slice a3 T.pr.length c3,.slice a4 T.fo.length c4,.slice a5 T.lk.length c5,.slice a6 T.dr.length c6,.slice a7 T.al.length c7] 28)).drew.heap.size (W.alloc (.cells #[.slice a0 T.sc.length c0,.slice a1 T.co.length c1,.slice a2 T.ma.length c2,.slice a3 T.pr.length c3,.slice a4 T.fo.length c4,.slice a5 T.lk.length c5,.slice a6 T.dr.length c6,.slice a7 T.al.length c7] 28)).drew w1→BoF w1 W.heap.size T a0 a1 a2 a3 a4 a5 a6 a7 c0 c1 c2 c3 c4 c5 c6 c7 us):=kz (fun w1 h =>hF.below h)
 have HB0:=kz hB0
 have HT:=kz hT
 have HO:=kz hO
 clear hT hO bP hB0 hF
 go_enter Tryz.func52,Tryz.ntmps52
 go_wp2_with fail
 generalize (W.alloc (.cells #[.slice a0 T.sc.length c0,.slice a1 T.co.length c1,.slice a2 T.ma.length c2,.slice a3 T.pr.length c3,.slice a4 T.fo.length c4,.slice a5 T.lk.length c5,.slice a6 T.dr.length c6,.slice a7 T.al.length c7] 28))=wz at *
 refine zao hmx 22 (by decide) (by kernel_rfl) (by kernel_rfl) (fun l a w => ∃ U:Nat→Value,a = { tmps:=#[.agg #[.slice a0 T.sc.length c0,.slice a1 T.co.length c1,.slice a2 T.ma.length c2,.slice a3 T.pr.length c3,.slice a4 T.fo.length c4,.slice a5 T.lk.length c5,.slice a6 T.dr.length c6,.slice a7 T.al.length c7],.pointer (some ⟨W.heap.size,0,none⟩),.pointer none,undef,undef,undef,undef,undef,undef,undef,undef,U 0,U 1,U 2,U 3,U 4,U 5,U 6,U 7,U 8,U 9,U 10,U 11,U 12,U 13,U 14,U 15,U 16,U 17,U 18,U 19,U 20,U 21,undef,undef,undef,undef,undef,undef,undef,undef,undef,undef,undef,undef,undef,undef,undef,undef,undef,undef,undef,undef,undef,undef,undef,undef,undef,undef,undef,undef,undef,undef,undef,undef,undef,undef,undef,undef,undef,undef,undef,undef,undef,undef,undef,undef,undef,undef,undef,undef,undef,undef,undef,undef,undef,undef,undef,undef,undef,undef,undef,undef,undef,undef,undef,undef,undef,undef,undef,undef],defers := [] }∧RgK wz.drew wz.drew.heap.size (boD W.heap.size wz.drew.heap.size T a0 a1 a2 a3 a4 a5 a6 a7 c0 c1 c2 c3 c4 c5 c6 c7) zqL zrm l U w) ⟨fun _ =>undef,rfl,RgK.start _ _ (Nat.le_refl _)⟩ ?_ ?_
 ·rintro l a w i ⟨U,rfl,hJ⟩ hl hi hif
  have h0:=(mem_ready.1 hi).1
  have hlt:=zc9 hl h0
  have HJ:=kz hJ
  clear hJ hl
  replace hlt:i < 23:=hlt
  obtain rfl | rfl | rfl | rfl | rfl | rfl | rfl | rfl | rfl | rfl | rfl | rfl | rfl | rfl | rfl | rfl | rfl | rfl | rfl | rfl | rfl | rfl:i=0∨i=1∨i=2∨i=3∨i=4∨i=5∨i=6∨i=7∨i=8∨i=9∨i=10∨i=11∨i=12∨i=13∨i=14∨i=15∨i=16∨i=17∨i=18∨i=19∨i=20∨i=21:=by omega
  ·refine wpOp_step rfl (fun K hK =>?_)
   clear hlt hif
   have q0:=(oz HF w (oz HJ).bel).bx.cell 0
   have q1:=(oz HF w (oz HJ).bel).bx.cell 1
   have q2:=(oz HF w (oz HJ).bel).bx.cell 2
   have q3:=(oz HF w (oz HJ).bel).bx.cell 3
   have q4:=(oz HF w (oz HJ).bel).bx.cell 4
   have q5:=(oz HF w (oz HJ).bel).bx.cell 5
   have q6:=(oz HF w (oz HJ).bel).bx.cell 6
   have q7:=(oz HF w (oz HJ).bel).bx.cell 7
   go_simp
   exact hK _ _ ⟨zaa U 0 _,rfl,(oz HJ).put 0 _ h0 (Below.refl _ _) (zbJ (Below.refl _ _)) rfl zbK (fun h =>absurd h (by decide))⟩
  ·refine wpOp_step rfl (fun K hK =>?_)
   clear hlt hif
   have d0:U 0=.agg #[.slice a0 T.sc.length c0,.slice a1 T.co.length c1,.slice a2 T.ma.length c2,.slice a3 T.pr.length c3,.slice a4 T.fo.length c4,.slice a5 T.lk.length c5,.slice a6 T.dr.length c6,.slice a7 T.al.length c7]:=(oz HJ).val 0 (zab hi 0 (by kernel_rfl))
   go_simp
   refine (zpO T (oz HO).ok (oz HO).z0 (fun x hx =>((oz HO).z4 x hx).1) (fun x hx =>((oz HO).z5 x hx).1) a0 a1 a2 a3 a4 a5 a6 a7 c0 c1 c2 c3 c4 c5 c6 c7 us w (oz HF w (oz HJ).bel).ti).mono ?_
   rintro e w' ⟨vv,rfl,hown,hb⟩
   exact hK _ _ ⟨zaa U 1 _,(by rw [zac d0];rfl),(oz HJ).put 1 _ h0 hb (zbJ hb) (hown.lower (oz HJ).sz) zbK (fun h =>absurd h (by decide))⟩
  ·refine wpOp_step rfl (fun K hK =>?_)
   clear hlt hif
   go_simp
   exact hK _ _ ⟨zaa U 2 _,rfl,(oz HJ).put 2 _ h0 (Below.refl _ _) (zbJ (Below.refl _ _)) rfl zbK (fun h =>absurd h (by decide))⟩
  ·refine wpOp_step rfl (fun K hK =>?_)
   clear hlt hif
   have d2:U 2=.pointer (some ⟨W.heap.size,1,none⟩):=(oz HJ).val 2 (zab hi 2 (by kernel_rfl))
   have q0:=(oz HF w (oz HJ).bel).bx.cell 1
   go_simp
   exact hK _ _ ⟨zaa U 3 _,(by rw [zac d2];rfl),(oz HJ).put 3 _ h0 (Below.refl _ _) (zbJ (Below.refl _ _)) rfl zbK (fun h =>absurd h (by decide))⟩
  ·refine wpOp_step rfl (fun K hK =>?_)
   clear hlt hif
   have d3:U 3=.slice a1 T.co.length c1:=(oz HJ).val 3 (zab hi 3 (by kernel_rfl))
   go_simp
   refine (zdr a1 c1 T.co (oz HO).ok.n1 (oz HO).r1 w (zdJ (oz HF w (oz HJ).bel).ti.r1 (Nat.le_refl _))).mono ?_
   rintro e w' ⟨B,rfl,hs,hb⟩
   exact hK _ _ ⟨zaa U 4 _,(by rw [zac d3];rfl),(oz HJ).put 4 _ h0 hb (zbJ hb) ⟨B,rfl,hs⟩ zbK (fun h =>absurd h (by decide))⟩
  ·refine wpOp_step rfl (fun K hK =>?_)
   clear hlt hif
   go_simp
   exact hK _ _ ⟨zaa U 5 _,rfl,(oz HJ).put 5 _ h0 (Below.refl _ _) (zbJ (Below.refl _ _)) rfl zbK (fun h =>absurd h (by decide))⟩
  ·refine wpOp_step rfl (fun K hK =>?_)
   clear hlt hif
   have d5:U 5=.pointer (some ⟨W.heap.size,6,none⟩):=(oz HJ).val 5 (zab hi 5 (by kernel_rfl))
   have q0:=(oz HF w (oz HJ).bel).bx.cell 6
   go_simp
   exact hK _ _ ⟨zaa U 6 _,(by rw [zac d5];rfl),(oz HJ).put 6 _ h0 (Below.refl _ _) (zbJ (Below.refl _ _)) rfl zbK (fun h =>absurd h (by decide))⟩
  ·refine wpOp_step rfl (fun K hK =>?_)
   clear hlt hif
   have d6:U 6=.slice a6 T.dr.length c6:=(oz HJ).val 6 (zab hi 6 (by kernel_rfl))
   go_simp
   refine (zdr a6 c6 T.dr (oz HO).ok.n6 (oz HO).r6 w (zdJ (oz HF w (oz HJ).bel).ti.r6 (Nat.le_refl _))).mono ?_
   rintro e w' ⟨B,rfl,hs,hb⟩
   exact hK _ _ ⟨zaa U 7 _,(by rw [zac d6];rfl),(oz HJ).put 7 _ h0 hb (zbJ hb) ⟨B,rfl,hs⟩ zbK (fun h =>absurd h (by decide))⟩
  ·refine wpOp_step rfl (fun K hK =>?_)
   clear hlt hif
   go_simp
   exact hK _ _ ⟨zaa U 8 _,rfl,(oz HJ).put 8 _ h0 (Below.refl _ _) (zbJ (Below.refl _ _)) rfl zbK (fun h =>absurd h (by decide))⟩
  ·refine wpOp_step rfl (fun K hK =>?_)
   clear hlt hif
   have d8:U 8=.pointer (some ⟨W.heap.size,7,none⟩):=(oz HJ).val 8 (zab hi 8 (by kernel_rfl))
   have q0:=(oz HF w (oz HJ).bel).bx.cell 7
   go_simp
   exact hK _ _ ⟨zaa U 9 _,(by rw [zac d8];rfl),(oz HJ).put 9 _ h0 (Below.refl _ _) (zbJ (Below.refl _ _)) rfl zbK (fun h =>absurd h (by decide))⟩
  ·refine wpOp_step rfl (fun K hK =>?_)
   clear hlt hif
   have d9:U 9=.slice a7 T.al.length c7:=(oz HJ).val 9 (zab hi 9 (by kernel_rfl))
   go_simp
   refine (zdr a7 c7 T.al (oz HO).ok.n7 (oz HO).r7 w (zdJ (oz HF w (oz HJ).bel).ti.r7 (Nat.le_refl _))).mono ?_
   rintro e w' ⟨B,rfl,hs,hb⟩
   exact hK _ _ ⟨zaa U 10 _,(by rw [zac d9];rfl),(oz HJ).put 10 _ h0 hb (zbJ hb) ⟨B,rfl,hs⟩ zbK (fun h =>absurd h (by decide))⟩
  ·refine wpOp_step rfl (fun K hK =>?_)
   clear hlt hif
   go_simp
   exact hK _ _ ⟨zaa U 11 _,rfl,(oz HJ).put 11 _ h0 ((Below.refl _ w).alloc (Nat.le_refl _) _) (zbJ ((Below.refl _ w).alloc (Nat.le_refl _) _)) ⟨_,rfl,(oz HJ).sz,fun kt R =>zhV w kt R⟩ zbK (fun _ b hq =>Nat.le_of_eq (Option.some.inj hq))⟩
  ·refine wpOp_step rfl (fun K hK =>?_)
   clear hlt hif
   go_simp
   exact hK _ _ ⟨zaa U 12 _,rfl,(oz HJ).put 12 _ h0 ((Below.refl _ w).alloc (Nat.le_refl _) _) (zbJ ((Below.refl _ w).alloc (Nat.le_refl _) _)) ⟨_,rfl,(oz HJ).sz,fun kt R =>zhV w kt R⟩ zbK (fun _ b hq =>Nat.le_of_eq (Option.some.inj hq))⟩
  ·refine wpOp_step rfl (fun K hK =>?_)
   clear hlt hif
   go_simp
   exact hK _ _ ⟨zaa U 13 _,rfl,(oz HJ).put 13 _ h0 ((Below.refl _ w).alloc (Nat.le_refl _) _) (zbJ ((Below.refl _ w).alloc (Nat.le_refl _) _)) ⟨_,rfl,(oz HJ).sz,fun kt R =>zhV w kt R⟩ zbK (fun _ b hq =>Nat.le_of_eq (Option.some.inj hq))⟩
  ·refine wpOp_step rfl (fun K hK =>?_)
   clear hlt hif
   go_simp
   exact hK _ _ ⟨zaa U 14 _,rfl,(oz HJ).put 14 _ h0 (Below.refl _ _) (zbJ (Below.refl _ _)) rfl zbK (fun h =>absurd h (by decide))⟩
  ·refine wpOp_step rfl (fun K hK =>?_)
   clear hlt hif
   have d14:U 14=.pointer (some ⟨W.heap.size,4,none⟩):=(oz HJ).val 14 (zab hi 14 (by kernel_rfl))
   have q0:=(oz HF w (oz HJ).bel).bx.cell 4
   go_simp
   exact hK _ _ ⟨zaa U 15 _,(by rw [zac d14];rfl),(oz HJ).put 15 _ h0 (Below.refl _ _) (zbJ (Below.refl _ _)) rfl zbK (fun h =>absurd h (by decide))⟩
  ·refine wpOp_step rfl (fun K hK =>?_)
   clear hlt hif
   have d15:U 15=.slice a4 T.fo.length c4:=(oz HJ).val 15 (zab hi 15 (by kernel_rfl))
   go_simp
   refine (zhx T.fo (oz HO).ok.n4 (oz HO).z4 a4 c4 w (oz HF w (oz HJ).bel).ti.r4).mono ?_
   rintro e w' ⟨M,n,rfl,hM,hn,hf,hb⟩
   exact hK _ _ ⟨zaa U 16 _,(by rw [zac d15];rfl),(oz HJ).put 16 _ h0 hb (zbJ hb) ⟨M,n,rfl,Nat.le_trans (oz HJ).sz hM,hf⟩ zbK (fun _ b hq =>by have:=Option.some.inj hq;omega)⟩
  ·refine wpOp_step rfl (fun K hK =>?_)
   clear hlt hif
   go_simp
   exact hK _ _ ⟨zaa U 17 _,rfl,(oz HJ).put 17 _ h0 (Below.refl _ _) (zbJ (Below.refl _ _)) rfl zbK (fun h =>absurd h (by decide))⟩
  ·refine wpOp_step rfl (fun K hK =>?_)
   clear hlt hif
   have d17:U 17=.pointer (some ⟨W.heap.size,5,none⟩):=(oz HJ).val 17 (zab hi 17 (by kernel_rfl))
   have q0:=(oz HF w (oz HJ).bel).bx.cell 5
   go_simp
   exact hK _ _ ⟨zaa U 18 _,(by rw [zac d17];rfl),(oz HJ).put 18 _ h0 (Below.refl _ _) (zbJ (Below.refl _ _)) rfl zbK (fun h =>absurd h (by decide))⟩
  ·refine wpOp_step rfl (fun K hK =>?_)
   clear hlt hif
   have d18:U 18=.slice a5 T.lk.length c5:=(oz HJ).val 18 (zab hi 18 (by kernel_rfl))
   go_simp
   refine (zhx T.lk (oz HO).ok.n5 (oz HO).z5 a5 c5 w (oz HF w (oz HJ).bel).ti.r5).mono ?_
   rintro e w' ⟨M,n,rfl,hM,hn,hf,hb⟩
   exact hK _ _ ⟨zaa U 19 _,(by rw [zac d18];rfl),(oz HJ).put 19 _ h0 hb (zbJ hb) ⟨M,n,rfl,Nat.le_trans (oz HJ).sz hM,hf⟩ zbK (fun _ b hq =>by have:=Option.some.inj hq;omega)⟩
  ·refine wpOp_step rfl (fun K hK =>?_)
   clear hlt hif
   have h1:=(oz HJ).val 1 (zab hi 1 (by kernel_rfl))
   obtain ⟨t0,us2,t1,t2,t3,t4,t5,t6,t7,d1,hl1,hL1⟩:=h1
   have HT1:=kz (show TabAt w wz.drew.heap.size T (.agg #[t0,t1,t2,t3,t4,t5,t6,t7]) from ⟨t0,us2,t1,t2,t3,t4,t5,t6,t7,rfl,hl1,hL1⟩)
   clear hl1 hL1
   obtain ⟨B4,d4,h4⟩:=(oz HJ).val 4 (zab hi 4 (by kernel_rfl))
   obtain ⟨B7,d7,h7⟩:=(oz HJ).val 7 (zab hi 7 (by kernel_rfl))
   obtain ⟨B10,d10,h10⟩:=(oz HJ).val 10 (zab hi 10 (by kernel_rfl))
   obtain ⟨M11,d11,l11,h11⟩:=(oz HJ).val 11 (zab hi 11 (by kernel_rfl))
   obtain ⟨M12,d12,l12,h12⟩:=(oz HJ).val 12 (zab hi 12 (by kernel_rfl))
   obtain ⟨M13,d13,l13,h13⟩:=(oz HJ).val 13 (zab hi 13 (by kernel_rfl))
   obtain ⟨M16,n16,d16,l16,h16⟩:=(oz HJ).val 16 (zab hi 16 (by kernel_rfl))
   obtain ⟨M19,n19,d19,l19,h19⟩:=(oz HJ).val 19 (zab hi 19 (by kernel_rfl))
   have n01:M11≠M12:=zg5 ((oz HJ).ap 11 12 rfl rfl (by decide) (zab hi 11 (by kernel_rfl)) (zab hi 12 (by kernel_rfl))) d11 d12
   have n02:M11≠M13:=zg5 ((oz HJ).ap 11 13 rfl rfl (by decide) (zab hi 11 (by kernel_rfl)) (zab hi 13 (by kernel_rfl))) d11 d13
   have n03:M11≠M16:=zg5 ((oz HJ).ap 11 16 rfl rfl (by decide) (zab hi 11 (by kernel_rfl)) (zab hi 16 (by kernel_rfl))) d11 d16
   have n04:M11≠M19:=zg5 ((oz HJ).ap 11 19 rfl rfl (by decide) (zab hi 11 (by kernel_rfl)) (zab hi 19 (by kernel_rfl))) d11 d19
   have n12:M12≠M13:=zg5 ((oz HJ).ap 12 13 rfl rfl (by decide) (zab hi 12 (by kernel_rfl)) (zab hi 13 (by kernel_rfl))) d12 d13
   have n13:M12≠M16:=zg5 ((oz HJ).ap 12 16 rfl rfl (by decide) (zab hi 12 (by kernel_rfl)) (zab hi 16 (by kernel_rfl))) d12 d16
   have n14:M12≠M19:=zg5 ((oz HJ).ap 12 19 rfl rfl (by decide) (zab hi 12 (by kernel_rfl)) (zab hi 19 (by kernel_rfl))) d12 d19
   have n23:M13≠M16:=zg5 ((oz HJ).ap 13 16 rfl rfl (by decide) (zab hi 13 (by kernel_rfl)) (zab hi 16 (by kernel_rfl))) d13 d16
   have n24:M13≠M19:=zg5 ((oz HJ).ap 13 19 rfl rfl (by decide) (zab hi 13 (by kernel_rfl)) (zab hi 19 (by kernel_rfl))) d13 d19
   have n34:M16≠M19:=zg5 ((oz HJ).ap 16 19 rfl rfl (by decide) (zab hi 16 (by kernel_rfl)) (zab hi 19 (by kernel_rfl))) d16 d19
   have HK:Hz (BkC w wz.drew.heap.size T t0 t1 t2 t3 t4 t5 t6 t7 B4 B7 B10 M11 M12 M13 M16 n16 M19 n19):=kz ⟨oz HT1,h4,h7,h10,h11,h12,h13,h16,h19,⟨l11,l12,l13,l16,l19⟩,n01,n02,n03,n04,n12,n13,n14,n23,n24,n34⟩
   clear HT1 h4 h7 h10 h11 h12 h13 h16 h19 n01 n02 n03 n04 n12 n13 n14 n23 n24 n34
   go_simp
   exact hK _ _ ⟨zaa U 20 _,(by rw [zac d1,zac d4,zac d7,zac d10,zac d11,zac d12,zac d13,zac d16,zac d19];rfl),(oz HJ).put 20 _ h0 (Below.refl _ _) (zbJ (Below.refl _ _)) ⟨t0,t1,t2,t3,t4,t5,t6,t7,B4,B7,B10,M11,M12,M13,M16,n16,M19,n19,rfl,oz HK⟩ zbK (fun h =>absurd h (by decide))⟩
  ·refine wpOp_step rfl (fun K hK =>?_)
   clear hlt hif
   obtain ⟨t0,t1,t2,t3,t4,t5,t6,t7,Bc,Bd,Ba,M5,M6,M7,MF,nF,ML,nL,d20,hK20⟩:=(oz HJ).val 20 (zab hi 20 (by kernel_rfl))
   have HK:=kz hK20
   clear hK20
   go_simp
   exact hK _ _ ⟨zaa U 21 _,(by rw [zac d20];rfl),(oz HJ).put 21 _ h0 ((Below.refl _ w).alloc (Nat.le_refl _) _) (zbJ ((Below.refl _ w).alloc (Nat.le_refl _) _)) ⟨_,t0,t1,t2,t3,t4,t5,t6,t7,Bc,Bd,Ba,M5,M6,M7,MF,nF,ML,nL,rfl,(oz HJ).sz,Blk.new w _ _,(oz HK).below ((Below.refl _ w).alloc (Nat.le_refl _) _)⟩ zbK (fun h =>absurd h (by decide))⟩
 ·rintro l a w ⟨V,rfl,hJ⟩ hall
  obtain ⟨B,t0,t1,t2,t3,t4,t5,t6,t7,Bc,Bd,Ba,M5,M6,M7,MF,nF,ML,nL,d21,hloB,hBk,hK⟩:=hJ.val 21 (hall 21 (by decide) (by decide))
  have hBW:Below W.heap.size W w:=(oz HB0).trans (hJ.bel.mono (by have:=oz HS1;omega))
  have hF1:=oz HF w hJ.bel
  have HP:=kz hF1
  have e0:=hF1.bx.cell 0
  have hWB:W.heap.size+1≤B:=by have:=oz HS1;omega
  have H0:Hz (ScSt w w B T t0 t1 t2 t3 t4 t5 t6 t7 Bc Bd Ba M5 M6 M7 MF ML 0 (.slice none 0 0) []):=kz ⟨hBk,rfl,World.ownsRow_nil _ _ _ _,fun j s b _ hb =>by simp at hb,KeptX.refl _ _⟩
  have H1:=kz (And.intro hK (And.intro hBW (And.intro hWB hBk.lt)))
  have HB1:=kz hBk
  have HW:Hz (W.heap.size+1≤wz.drew.heap.size):=kz (Nat.le_of_eq (oz HS1).symm)
  have HLo:Hz (wz.drew.heap.size≤w.heap.size):=kz hJ.bel.size
  clear hJ hall hF1 hBk hK hBW hloB hWB
  refine wpOp_step rfl (fun K hK =>?_)
  go_simp
  refine hK _ _ ?_
  clear hK HF HB0 HS1
  go_step
  go_step
  refine wp_seq_k (fun K2 hK2 =>?_)
  have HK2:=kz hK2
  clear hK2
  go_wp2_with fail
  go_loopw [5,36] (fun _ s36 wr => ∃ (k:Nat) (sv:Value) (bs:List Nat),k≤T.sc.length∧s36=.int .i64 k∧Hz (ScSt w wr B T t0 t1 t2 t3 t4 t5 t6 t7 Bc Bd Ba M5 M6 M7 MF ML k sv bs)) (fun _ s36 _ =>T.sc.length - (intOf s36).toNat)
  case atStart =>exact ⟨0,_,_,Nat.zero_le _,rfl,H0⟩
  case round =>
   obtain ⟨k,sv,bs,hk,rfl,HS⟩:=hrel
   clear H0
   by_cases hkn:k < T.sc.length
   ·obtain ⟨s,hs⟩:∃ s,T.sc[k]?=some s:=⟨_,List.getElem?_eq_getElem hkn⟩
    obtain ⟨u,hu⟩:∃ u,us[k]?=some u:=⟨_,List.getElem?_eq_getElem (by have:=(oz HT).lu;omega)⟩
    obtain ⟨b,d,rfl,hrc⟩:=(oz HT).rs k s u hs hu
    have hlen:0 < (zbG T.sc us).length:=by have:=(List.getElem?_eq_some_iff.1 (zic T.sc us (oz HT).lu k s hs)).1;omega
    obtain ⟨g,q,rfl,hg,hc⟩:=(oz HT).r0 hlen
    have n0:=zic T.sc us (oz HT).lu k s hs
    have n1:(zbG T.sc us)[k*2+1]?=some (.slice b s.2.length d):=by rw [show k*2+1=2*k+1 by omega,ze3 _ _ (oz HT).lu];exact hu
    have hgw:g < w.heap.size:=Nat.lt_of_lt_of_le hg (oz H1).2.1.size
    have hgB:¬ g=B:=by have:=(oz H1).2.2.1;omega
    have kc0:wr.cell? ⟨g,q+k*2,none⟩=some (.string s.1):=((oz HS).kp.cell (p:=⟨g,q+k*2,none⟩) hgw hgB).trans (((oz H1).2.1.cell (p:=⟨g,q+k*2,none⟩) hg).trans (hc _ _ n0))
    have kc1:wr.cell? ⟨g,q+k*2+1,none⟩=some (.slice b s.2.length d):=((oz HS).kp.cell (p:=⟨g,q+k*2+1,none⟩) hgw hgB).trans (((oz H1).2.1.cell (p:=⟨g,q+k*2+1,none⟩) hg).trans (hc _ _ n1))
    have hrw:RowC wr w.heap.size b (zaQ s.2):=fun h0 =>by
     obtain ⟨g2,o2,e2,hg2,hc2⟩:=hrc h0
     have h3:g2 < w.heap.size:=Nat.lt_of_lt_of_le hg2 (oz H1).2.1.size
     exact ⟨g2,o2,e2,h3,fun j v hv =>((oz HS).kp.cell (p:=⟨g2,o2+j,none⟩) h3 (show ¬ g2=B by have:=(oz H1).2.2.1;omega)).trans (((oz H1).2.1.cell (p:=⟨g2,o2+j,none⟩) hg2).trans (hc2 j v hv))⟩
    have hk1:(k:Int) < (T.sc.length:Int):=by omega
    have HKN:Hz (k+1≤T.sc.length):=kz hkn
    have hkn0:k≤T.sc.length:=hk
    have hk2:((k:Nat):Int).toNat=k:=by omega
    have HX:=kz (And.intro hs (And.intro ((oz HO).rs s (List.mem_of_getElem? hs)) (And.intro ((oz HO).ok.z0 s (List.mem_of_getElem? hs)).2 hrw)))
    obtain ⟨s1,s2⟩:=s
    dsimp only at kc0 kc1 HX
    clear hs hu hrc hc n0 n1 hgw hgB hrw hlen hg
    have HF:Hz (∀ w2,KeptX (fun x =>sv.ownBlock=some x) (wr.alloc (.cells #[.string s1,.slice b s2.length d] 109)).drew w2→Blk w2 wr.heap.size #[.string s1,.slice b s2.length d] 109∧Blk w2 B (zql t0 t1 t2 t3 t4 t5 t6 t7 sv Bc Bd Ba M5 M6 M7 MF ML) 107∧RowC w2 w.heap.size b (zaQ s2)):=kz (fun w2 h2 =>by
     have hb:Below wr.heap.size wr (wr.alloc (.cells #[.string s1,.slice b s2.length d] 109)).drew:=((Below.refl _ wr).alloc (Nat.le_refl _) _).trans ⟨rfl,rfl,rfl,Nat.le_refl _,fun _ _ =>rfl⟩
     have hlow:∀ x,sv.ownBlock=some x→w.heap.size≤x∧x < wr.heap.size:=fun x e =>⟨zbx (oz HS).row x e,zbS (oz HS).row x e⟩
     refine ⟨h2.blk (Blk.new wr _ _) (fun e =>by have:=hlow _ e;omega),h2.blk ((oz HS).bx.below hb (oz HS).bx.lt) (fun e =>by have:=hlow _ e;have:=(oz H1).2.2.2;omega),fun h0 =>?_⟩
     obtain ⟨g2,o2,e2,hg2,hc2⟩:=(oz HX).2.2.2 h0
     have h3:g2 < wr.heap.size:=Nat.lt_of_lt_of_le hg2 (oz HS).kp.size
     exact ⟨g2,o2,e2,hg2,fun j v hv =>(h2.cell (p:=⟨g2,o2+j,none⟩) (Nat.lt_of_lt_of_le h3 hb.size) (show ¬ sv.ownBlock=some g2 from fun e =>by have:=hlow g2 e;omega)).trans ((hb.cell (p:=⟨g2,o2+j,none⟩) h3).trans (hc2 j v hv))⟩)
    have HZ:Hz (Below wr.heap.size wr (wr.alloc (.cells #[.string s1,.slice b s2.length d] 109)).drew∧w.heap.size≤(wr.alloc (.cells #[.string s1,.slice b s2.length d] 109)).drew.heap.size∧(∀ x,sv.ownBlock=some x→x < (wr.alloc (.cells #[.string s1,.slice b s2.length d] 109)).drew.heap.size)∧B < w.heap.size):=kz (by
     have hb:Below wr.heap.size wr (wr.alloc (.cells #[.string s1,.slice b s2.length d] 109)).drew:=((Below.refl _ wr).alloc (Nat.le_refl _) _).trans ⟨rfl,rfl,rfl,Nat.le_refl _,fun _ _ =>rfl⟩
     exact ⟨hb,Nat.le_trans (oz HS).kp.size hb.size,fun x e =>Nat.lt_of_lt_of_le (zbS (oz HS).row x e) hb.size,(oz H1).2.2.2⟩)
    go_wp2_with fail
    generalize (wr.alloc (.cells #[.string s1,.slice b s2.length d] 109))=wb at *
    refine zoB hmx HS HF HX HZ (oz HO).ok.n0 hkn0 ?_
    intro U wn sv2 bs2 HN
    have hkb:k+1≤1000000:=by have:=(oz HO).ok.n0;have:=oz HKN;omega
    go_wp2_with fail
    exact ⟨⟨k+1,_,_,oz HKN,by go_num,HN⟩,by have:=oz HKN;simp [intOf];omega⟩
   ·have hk1:¬ (k:Int) < (T.sc.length:Int):=by omega
    obtain rfl:k=T.sc.length:=by omega
    have hPB:¬ W.heap.size=B:=by have:=(oz H1).2.2.1;omega
    have HE:Hz (∀ g j,g < W.heap.size→wr.cell? ⟨g,j,none⟩=W.cell? ⟨g,j,none⟩):=kz (fun g j hg =>((oz HS).kp.cell (p:=⟨g,j,none⟩) (Nat.lt_of_lt_of_le hg (oz H1).2.1.size) (show ¬ g=B by have:=(oz H1).2.2.1;omega)).trans ((oz H1).2.1.cell (p:=⟨g,j,none⟩) hg))
    have HPb:=kz ((oz HS).kp.blk (oz HP).bx hPB)
    clear hPB
    go_wp2_with fail
    have l5:W.heap.size+1≤M5:=by have:=(oz H1).1.lows.1;have:=oz HW;omega
    have l6:W.heap.size+1≤M6:=by have:=(oz H1).1.lows.2.1;have:=oz HW;omega
    have l7:W.heap.size+1≤M7:=by have:=(oz H1).1.lows.2.2.1;have:=oz HW;omega
    have lB:=(oz H1).2.2.1
    have m5:=zcs ((oz H1).1.m5 21 (plainElem Tryz.prog 3)) (oz HB1)
    have m6:=zcs ((oz H1).1.m6 21 zd3) (oz HB1)
    have m7:=zcs ((oz H1).1.m7 134 (plainElem Tryz.prog 21)) (oz HB1)
    have hsz:W.heap.size≤wr.heap.size:=Nat.le_trans (oz H1).2.1.size (oz HS).kp.size
    refine oz HK2 _ _ (zl3 T (oz HO).ok.n2 (fun x hx =>⟨(oz HO).z2 x hx,(oz HO).ok.z2 x hx⟩) (lo:=W.heap.size) (M5:=M5) hmx ((oz HPb).cell 2) (kz ⟨zml (oz HT).r2 (oz HE),hsz,by omega,(oz HS).bx.lt,fun e =>m5 e.symm,(oz HS).bx.cell 12⟩) (kz ⟨⟨_,(oz HS).kp.mp ((oz H1).1.m5 _ _) m5,fun r _ =>.inl ⟨fun x hx =>by simp at hx,rfl⟩⟩,KeptX.refl _ _⟩) ?_)
    intro v7 v53 v54 v55 v56 v57 v58 v59 v60 v61 v62 v63 v64 v65 v66 v67 v68 wn HN
    have hk2:=(oz HN).2
    have hc2:∀ g j,g < wr.heap.size→g≠M5→wn.cell? ⟨g,j,none⟩=wr.cell? ⟨g,j,none⟩:=fun g j hg hne =>hk2.cell (p:=⟨g,j,none⟩) hg hne
    refine zl2 T (oz HO).ok.n3 (oz HO).z3 (lo:=W.heap.size) (M6:=M6) (M7:=M7) hmx ((hc2 _ 3 (oz HPb).lt (by omega)).trans ((oz HPb).cell 3)) (kz ⟨zml (oz HT).r3 (fun g j hg =>(hc2 g j (by omega) (by omega)).trans (oz HE g j hg)),Nat.le_trans hsz hk2.size,by omega,by omega,(oz H1).1.n67,Nat.lt_of_lt_of_le (oz HS).bx.lt hk2.size,fun e =>m6 e.symm,fun e =>m7 e.symm,(hc2 B 13 (oz HS).bx.lt (fun e =>m5 e.symm)).trans ((oz HS).bx.cell 13),(hc2 B 14 (oz HS).bx.lt (fun e =>m5 e.symm)).trans ((oz HS).bx.cell 14)⟩) (kz ⟨⟨_,hk2.mp ((oz HS).kp.mp ((oz H1).1.m6 _ _) m6) (fun e =>(oz H1).1.n56 e.symm),fun r _ =>.inl ⟨fun x hx =>by simp at hx,rfl⟩⟩,⟨_,hk2.mp ((oz HS).kp.mp ((oz H1).1.m7 _ _) m7) (fun e =>(oz H1).1.n57 e.symm),fun a b k _ =>.inl ⟨fun x hx =>by simp at hx,rfl⟩⟩,KeptX.refl _ _⟩) ?_
    intro af wq h2 hd HQ
    refine bodyPost_ret (v := .pointer (some ⟨B,0,none⟩)) (by rw [← h2];exact results_tmp rfl _ _ _) hd ?_
    refine ⟨B,rfl,by omega,zpa (oz H1).1 (oz HB1) (oz HLo) (oz HS) (oz HN).1 hk2 (oz HQ).1 (oz HQ).2.1 (oz HQ).2.2, ?_⟩
    exact zdT (zdT (zdT (oz H1).2.1 (oz HS).kp (fun g e =>by subst e;omega) (Nat.le_refl _)) hk2 (fun g e =>by subst e;omega) (Nat.le_refl _)) (oz HQ).2.2 (fun g e =>by rcases e with e | e <;> (subst e;omega)) (Nat.le_refl _)
end Go.Proofs.YtmemedpoaocdkaaGreat
