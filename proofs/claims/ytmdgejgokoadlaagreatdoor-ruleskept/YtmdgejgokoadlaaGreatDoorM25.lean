/- Texts of this claim, one behind the other. -/
import Derived.Test.YtmdgejgokoadlaaGreatDoorM24
/- The reference's Where. -/
namespace Go.Proofs.YtmdgejgokoadlaaGreatDoor
open Go.RowKit Go.Shelf
set_option linter.unusedVariables false
theorem zcY (s:ByteArray) (hs:s.size≤1099511627776) (a:Nat) (ha:a≤1099511627776) (w:World):Calls Tryz.prog 82 #[.string s,.int .i64 a] w fun e w' =>e=.returned (seqR4 a (zbD (rst s a)))∧w'=w:=by
 by_cases h:a < s.size
 ·by_cases h0:(zay (bt s a)).1=0
  ·exact zem s hs a ha (.inr ⟨h,by omega⟩) w
  ·exact zhq s hs a h h0 w
 ·exact zem s hs a ha (.inl (by omega)) w
structure WhSt (s:ByteArray) (w W:World) (k i:Nat):Prop where
 res:Blk W w.heap.size #[.int .i64 0,.int .i64 0,.int .i64 0] 53
 cur:Blk W (w.heap.size+1) #[.int .i64 k,.int .i64 (zdI s i).1,.int .i64 (zdI s i).2] 53
 bel:Below w.heap.size w W
 bd:bdB s i=true
theorem lcR_le:∀ (zs:List Int) (x:Nat × Nat),(lcR x zs).1≤x.1+zs.length∧(lcR x zs).2≤max x.2 1+zs.length
 | [],x =>⟨Nat.le_refl _,by rw [lcR_nil];simp;omega⟩
 | z::zs,x =>by
  rw [zeO,List.length_cons]
  have:=lcR_le zs (if z=10 then (x.1+1,1) else (x.1,x.2+1))
  split at this <;> (rename_i h;simp only [h,if_true,if_false] at this ⊢;omega)
theorem lcAt_le (s:ByteArray) (i:Nat):(zdI s i).1≤1+min i s.size∧(zdI s i).2≤1+min i s.size:=by
 have h:=lcR_le (zaA (s.extract 0 i)) (1,1)
 have h2:=zbL (s.extract 0 i)
 rw [zdx] at h
 have hz:(s.extract 0 i).size=min i s.size:=by rw [ByteArray.size_extract];omega
 unfold zdI
 simp only [] at h
 omega
set_option maxRecDepth 100000 in
set_option maxHeartbeats 4000000 in
theorem zcM (s:ByteArray) (hs:s.size≤1099511627776) (k:Nat) (hk:k≤s.size) (z:Int) (hz:(z < 0∧k=0)∨(¬ z < 0∧(s.size:Int) < z∧k=s.size)∨(¬ z < 0∧¬ (s.size:Int) < z∧z=k)) (w:World):Calls Tryz.prog 46 #[.string s,.int .i64 z] w fun e w' =>e=.returned (.agg (atA k (whL s k)))∧Below w.heap.size w w':=by
 have HWD:=kz (fun i hi =>seq4_wd s i hi)
 have HST:=kz (fun i h hi =>lcAt_step s i h hi)
 rcases hz with ⟨h1,rfl⟩ | ⟨h1,h2,rfl⟩ | ⟨h1,h2,rfl⟩
 ·clear hk
  have hw1:whL s 0=(1,1):=zhe s
  go_enter Tryz.func46,Tryz.ntmps46
  go_wp2_with fail
  have bR:Blk ((w.alloc (.cells #[.int .i64 0,.int .i64 0,.int .i64 0] 53)).alloc (.cells #[.int .i64 0,.int .i64 1,.int .i64 1] 53)) w.heap.size #[.int .i64 0,.int .i64 0,.int .i64 0] 53:=(Blk.new w _ _).alloc _
  have bW:Blk ((w.alloc (.cells #[.int .i64 0,.int .i64 0,.int .i64 0] 53)).alloc (.cells #[.int .i64 0,.int .i64 1,.int .i64 1] 53)) (w.heap.size+1) #[.int .i64 0,.int .i64 1,.int .i64 1] 53:=by
   have:=Blk.new (w.alloc (.cells #[.int .i64 0,.int .i64 0,.int .i64 0] 53)) #[.int .i64 0,.int .i64 1,.int .i64 1] 53
   rwa [World.size_alloc] at this
  have hbl:Below w.heap.size w ((w.alloc (.cells #[.int .i64 0,.int .i64 0,.int .i64 0] 53)).alloc (.cells #[.int .i64 0,.int .i64 1,.int .i64 1] 53)):=((Below.refl _ w).alloc (Nat.le_refl _) _).alloc (by simp) _
  generalize ((w.alloc (.cells #[.int .i64 0,.int .i64 0,.int .i64 0] 53)).alloc (.cells #[.int .i64 0,.int .i64 1,.int .i64 1] 53))=w0 at *
  have r0:=bR.cell 0
  have r1:=bR.cell 1
  have r2:=bR.cell 2
  have rf0:=bR.frozen 0
  have rf1:=bR.frozen 1
  have rf2:=bR.frozen 2
  have c0:=bW.cell 0
  have c1:=bW.cell 1
  have c2:=bW.cell 2
  have hE:=(bR.set 0 (.int .i64 0)).set 1 (.int .i64 1) |>.set 2 (.int .i64 1)
  have hBE:=((hbl.setCell (p:=⟨w.heap.size,0,none⟩) (Nat.le_refl _) (.int .i64 0)).setCell (p:=⟨w.heap.size,1,none⟩) (Nat.le_refl _) (.int .i64 1)).setCell (p:=⟨w.heap.size,2,none⟩) (Nat.le_refl _) (.int .i64 1)
  have e0:=hE.cell 0
  have e1:=hE.cell 1
  have e2:=hE.cell 2
  have HBE:=kz hBE
  clear hE hBE bR bW hbl
  refine wp_loop_rounds 1 ?_
  rw [rounds_succ]
  go_wp2_with fail
  exact bodyPost_ret (v := .agg #[.int .i64 0,.int .i64 1,.int .i64 1]) (by simp [results,Tryz.results46,go_sem,e0,e1,e2]) rfl ⟨by rw [hw1];rfl,oz HBE⟩
 ·clear hk
  go_enter Tryz.func46,Tryz.ntmps46
  go_wp2_with fail
  have bR:Blk ((w.alloc (.cells #[.int .i64 0,.int .i64 0,.int .i64 0] 53)).alloc (.cells #[.int .i64 (s.size:Nat),.int .i64 1,.int .i64 1] 53)) w.heap.size #[.int .i64 0,.int .i64 0,.int .i64 0] 53:=(Blk.new w _ _).alloc _
  have bW:Blk ((w.alloc (.cells #[.int .i64 0,.int .i64 0,.int .i64 0] 53)).alloc (.cells #[.int .i64 (s.size:Nat),.int .i64 1,.int .i64 1] 53)) (w.heap.size+1) #[.int .i64 (s.size:Nat),.int .i64 1,.int .i64 1] 53:=by
   have:=Blk.new (w.alloc (.cells #[.int .i64 0,.int .i64 0,.int .i64 0] 53)) #[.int .i64 (s.size:Nat),.int .i64 1,.int .i64 1] 53
   rwa [World.size_alloc] at this
  have hbl:Below w.heap.size w ((w.alloc (.cells #[.int .i64 0,.int .i64 0,.int .i64 0] 53)).alloc (.cells #[.int .i64 (s.size:Nat),.int .i64 1,.int .i64 1] 53)):=((Below.refl _ w).alloc (Nat.le_refl _) _).alloc (by simp) _
  generalize ((w.alloc (.cells #[.int .i64 0,.int .i64 0,.int .i64 0] 53)).alloc (.cells #[.int .i64 (s.size:Nat),.int .i64 1,.int .i64 1] 53))=w0 at *
  have HI:Hz (WhSt s w w0 s.size 0):=kz ⟨bR,by rw [zd1];exact bW,hbl,zdG s⟩
  clear bR bW hbl
  go_loopw [6,7,8,9] (fun i _ _ _ wr => ∃ I:Nat,I≤s.size∧i=.int .i64 I∧Hz (WhSt s w wr s.size I)) (fun i _ _ _ _ =>s.size - (intOf i).toNat)
  case atStart =>exact ⟨0,by omega,rfl,HI⟩
  case round =>
   obtain ⟨I,hI,rfl,HS⟩:=hrel
   obtain ⟨w2,rfl⟩:∃ w2,w2=wr:=⟨_,rfl⟩
   have hbR:=(oz HS).res
   have hbW:=(oz HS).cur
   have r0:=hbR.cell 0
   have r1:=hbR.cell 1
   have r2:=hbR.cell 2
   have rf0:=hbR.frozen 0
   have rf1:=hbR.frozen 1
   have rf2:=hbR.frozen 2
   by_cases hik:I < s.size
   ·have hik':(I:Int) < (s.size:Int):=by omega
    have his:(I:Int) < (s.size:Int):=by omega
    have hIs:I < s.size:=by omega
    have hwd:=oz HWD I hIs
    have hst:=oz HST I (oz HS).bd hIs
    have hsq:=zcY s hs I (by omega)
    have hgb:=zaz s I hIs
    obtain ⟨b,eb⟩:∃ b,(s[I]'hIs).toNat=b:=⟨_,rfl⟩
    rw [hgb,eb] at hst
    have hwp:=zbh s I
    have hnx:=fun h =>zfn s I (oz HS).bd h
    have hcu:=fun h =>zkQ s I s.size (oz HS).bd (by omega) h
    obtain ⟨r,n,o,hv⟩:∃ r n o,zbD (rst s I)=(r,n,o):=⟨_,_,_,rfl⟩
    rw [hv] at hwd hsq
    obtain ⟨d,hd⟩:∃ d,d=wd s I:=⟨_,rfl⟩
    rw [← hd] at hwd hst hwp hnx hcu
    have hroom:=zbC s I hIs
    rw [← hd] at hroom
    obtain ⟨l,c,hlc⟩:∃ l c,zdI s I=(l,c):=⟨_,_,rfl⟩
    rw [hlc] at hbW hst
    have hb2:(I:Int)+(d:Int)≤(s.size:Int):=by omega
    have hll:=lcAt_le s I
    rw [hlc] at hll
    have hl2:l≤s.size+1∧c≤s.size+1:=by
     have:min I s.size≤s.size:=by omega
     omega
    have HST2:=kz hst
    have HNX:=kz (hnx hIs)
    have HCU:=kz hcu
    have HLC:=kz hlc
    have HSQ:=kz hsq
    clear hgb hv hd hst hnx hcu hlc hsq hll
    have c0:=hbW.cell 0
    have c1:=hbW.cell 1
    have c2:=hbW.cell 2
    have f1:=hbW.frozen 1
    have f2:=hbW.frozen 2
    have HBW:=kz hbW
    have HBR:=kz hbR
    clear hbW hbR
    by_cases hend:s.size < I+d
    ·exfalso;omega
    ·have hend':¬ (s.size:Int) < (I:Int)+(d:Int):=by omega
     clear r0 r1 r2 rf0 rf1 rf2
     by_cases hb10:b=10
     ·have hb10':((b:Int) == 10)=true:=by rw [beq_iff_eq];omega
      have hnew:zdI s (I+d)=(l+1,1):=by rw [oz HST2,if_pos hb10]
      have p2:=(oz HBW).set 2 (.int .i64 ((c:Int)+1))
      have p21:=p2.cell 1
      have p2f:=p2.frozen 1
      have p3:=p2.set 1 (.int .i64 ((l:Int)+1))
      have p3f:=p3.frozen 2
      have p4:=p3.set 2 (.int .i64 1)
      have HNEW:Hz (WhSt s w (((w2.setCell ⟨w.heap.size+1,2,none⟩ (.int .i64 ((c:Int)+1))).setCell ⟨w.heap.size+1,1,none⟩ (.int .i64 ((l:Int)+1))).setCell ⟨w.heap.size+1,2,none⟩ (.int .i64 1)) s.size (I+d)):=kz ⟨(((oz HBR).other (by omega) _).other (by omega) _).other (by omega) _,by rw [hnew];exact p4,(((oz HS).bel.setCell (p:=⟨w.heap.size+1,2,none⟩) (by simp) _).setCell (p:=⟨w.heap.size+1,1,none⟩) (by simp) _).setCell (p:=⟨w.heap.size+1,2,none⟩) (by simp) _,oz HNX⟩
      clear hnew p2 p3 p4 HST2 HNX HCU HLC hb10
      cases o
      ·have hd1:d=1:=by have q:I+1=I+d:=hwd;omega
       subst hd1
       clear hwd
       go_wp2_with fail
       refine (oz HSQ _).mono ?_
       rintro e w3 ⟨rfl,rfl⟩
       go_wp2_with fail
       go_roundw
       case rel =>exact ⟨_,by omega,by go_num,HNEW⟩
       case measure =>simp [intOf];omega
      ·have hd1:d=n:=by have q:I+n=I+d:=hwd;omega
       subst hd1
       clear hwd
       go_wp2_with fail
       refine (oz HSQ _).mono ?_
       rintro e w3 ⟨rfl,rfl⟩
       go_wp2_with fail
       go_roundw
       case rel =>exact ⟨_,by omega,by go_num,HNEW⟩
       case measure =>simp [intOf];omega
     ·have hb10':((b:Int) == 10)=false:=by rw [beq_eq_false_iff_ne];omega
      have hnew:zdI s (I+d)=(l,c+1):=by rw [oz HST2,if_neg hb10]
      have p2:=(oz HBW).set 2 (.int .i64 ((c:Int)+1))
      have HNEW:Hz (WhSt s w (w2.setCell ⟨w.heap.size+1,2,none⟩ (.int .i64 ((c:Int)+1))) s.size (I+d)):=kz ⟨(oz HBR).other (by omega) _,by rw [hnew];exact p2,(oz HS).bel.setCell (p:=⟨w.heap.size+1,2,none⟩) (by simp) _,oz HNX⟩
      clear hnew p2 HST2 HNX HCU HLC hb10
      cases o
      ·have hd1:d=1:=by have q:I+1=I+d:=hwd;omega
       subst hd1
       clear hwd
       go_wp2_with fail
       refine (oz HSQ _).mono ?_
       rintro e w3 ⟨rfl,rfl⟩
       go_wp2_with fail
       go_roundw
       case rel =>exact ⟨_,by omega,by go_num,HNEW⟩
       case measure =>simp [intOf];omega
      ·have hd1:d=n:=by have q:I+n=I+d:=hwd;omega
       subst hd1
       clear hwd
       go_wp2_with fail
       refine (oz HSQ _).mono ?_
       rintro e w3 ⟨rfl,rfl⟩
       go_wp2_with fail
       go_roundw
       case rel =>exact ⟨_,by omega,by go_num,HNEW⟩
       case measure =>simp [intOf];omega
   ·have hik':¬ (I:Int) < (s.size:Int):=by omega
    have hIk:I=s.size:=by omega
    obtain ⟨l,c,hlc⟩:∃ l c,zdI s I=(l,c):=⟨_,_,rfl⟩
    have hw1:whL s s.size=(l,c):=by rw [whL_bd s s.size (hIk ▸ (oz HS).bd), ← hIk,hlc]
    rw [hlc] at hbW
    have HW1:=kz hw1
    have c0:=hbW.cell 0
    have c1:=hbW.cell 1
    have c2:=hbW.cell 2
    have hE:=(hbR.set 0 (.int .i64 (s.size:Nat))).set 1 (.int .i64 l) |>.set 2 (.int .i64 c)
    have hBE:=(((oz HS).bel.setCell (p:=⟨w.heap.size,0,none⟩) (Nat.le_refl _) (.int .i64 (s.size:Nat))).setCell (p:=⟨w.heap.size,1,none⟩) (Nat.le_refl _) (.int .i64 l)).setCell (p:=⟨w.heap.size,2,none⟩) (Nat.le_refl _) (.int .i64 c)
    have e0:=hE.cell 0
    have e1:=hE.cell 1
    have e2:=hE.cell 2
    have HBE:=kz hBE
    clear hE hBE hw1 hlc hIk hbR hbW
    go_wp2_with fail
    exact bodyPost_ret (v := .agg #[.int .i64 (s.size:Nat),.int .i64 l,.int .i64 c]) (by simp [results,Tryz.results46,go_sem,e0,e1,e2]) rfl ⟨by rw [oz HW1],oz HBE⟩
 ·skip
  go_enter Tryz.func46,Tryz.ntmps46
  go_wp2_with fail
  have bR:Blk ((w.alloc (.cells #[.int .i64 0,.int .i64 0,.int .i64 0] 53)).alloc (.cells #[.int .i64 (k:Nat),.int .i64 1,.int .i64 1] 53)) w.heap.size #[.int .i64 0,.int .i64 0,.int .i64 0] 53:=(Blk.new w _ _).alloc _
  have bW:Blk ((w.alloc (.cells #[.int .i64 0,.int .i64 0,.int .i64 0] 53)).alloc (.cells #[.int .i64 (k:Nat),.int .i64 1,.int .i64 1] 53)) (w.heap.size+1) #[.int .i64 (k:Nat),.int .i64 1,.int .i64 1] 53:=by
   have:=Blk.new (w.alloc (.cells #[.int .i64 0,.int .i64 0,.int .i64 0] 53)) #[.int .i64 (k:Nat),.int .i64 1,.int .i64 1] 53
   rwa [World.size_alloc] at this
  have hbl:Below w.heap.size w ((w.alloc (.cells #[.int .i64 0,.int .i64 0,.int .i64 0] 53)).alloc (.cells #[.int .i64 (k:Nat),.int .i64 1,.int .i64 1] 53)):=((Below.refl _ w).alloc (Nat.le_refl _) _).alloc (by simp) _
  generalize ((w.alloc (.cells #[.int .i64 0,.int .i64 0,.int .i64 0] 53)).alloc (.cells #[.int .i64 (k:Nat),.int .i64 1,.int .i64 1] 53))=w0 at *
  have HI:Hz (WhSt s w w0 k 0):=kz ⟨bR,by rw [zd1];exact bW,hbl,zdG s⟩
  clear bR bW hbl
  go_loopw [6,7,8,9] (fun i _ _ _ wr => ∃ I:Nat,I≤k∧i=.int .i64 I∧Hz (WhSt s w wr k I)) (fun i _ _ _ _ =>k - (intOf i).toNat)
  case atStart =>exact ⟨0,by omega,rfl,HI⟩
  case round =>
   obtain ⟨I,hI,rfl,HS⟩:=hrel
   obtain ⟨w2,rfl⟩:∃ w2,w2=wr:=⟨_,rfl⟩
   have hbR:=(oz HS).res
   have hbW:=(oz HS).cur
   have r0:=hbR.cell 0
   have r1:=hbR.cell 1
   have r2:=hbR.cell 2
   have rf0:=hbR.frozen 0
   have rf1:=hbR.frozen 1
   have rf2:=hbR.frozen 2
   by_cases hik:I < k
   ·have hik':(I:Int) < (k:Int):=by omega
    have his:(I:Int) < (s.size:Int):=by omega
    have hIs:I < s.size:=by omega
    have hwd:=oz HWD I hIs
    have hst:=oz HST I (oz HS).bd hIs
    have hsq:=zcY s hs I (by omega)
    have hgb:=zaz s I hIs
    obtain ⟨b,eb⟩:∃ b,(s[I]'hIs).toNat=b:=⟨_,rfl⟩
    rw [hgb,eb] at hst
    have hwp:=zbh s I
    have hnx:=fun h =>zfn s I (oz HS).bd h
    have hcu:=fun h =>zkQ s I k (oz HS).bd (by omega) h
    obtain ⟨r,n,o,hv⟩:∃ r n o,zbD (rst s I)=(r,n,o):=⟨_,_,_,rfl⟩
    rw [hv] at hwd hsq
    obtain ⟨d,hd⟩:∃ d,d=wd s I:=⟨_,rfl⟩
    rw [← hd] at hwd hst hwp hnx hcu
    have hroom:=zbC s I hIs
    rw [← hd] at hroom
    obtain ⟨l,c,hlc⟩:∃ l c,zdI s I=(l,c):=⟨_,_,rfl⟩
    rw [hlc] at hbW hst
    have hb2:(I:Int)+(d:Int)≤(s.size:Int):=by omega
    have hll:=lcAt_le s I
    rw [hlc] at hll
    have hl2:l≤s.size+1∧c≤s.size+1:=by
     have:min I s.size≤s.size:=by omega
     omega
    have HST2:=kz hst
    have HNX:=kz (hnx hIs)
    have HCU:=kz hcu
    have HLC:=kz hlc
    have HSQ:=kz hsq
    clear hgb hv hd hst hnx hcu hlc hsq hll
    have c0:=hbW.cell 0
    have c1:=hbW.cell 1
    have c2:=hbW.cell 2
    have f1:=hbW.frozen 1
    have f2:=hbW.frozen 2
    have HBW:=kz hbW
    have HBR:=kz hbR
    clear hbW hbR
    by_cases hend:k < I+d
    ·have hend':(k:Int) < (I:Int)+(d:Int):=by omega
     have hw1:whL s k=(l,c):=by rw [whL_at,oz HCU hend,oz HLC]
     have HW1:=kz hw1
     clear hw1 HST2 HNX
     have hE:=((oz HBR).set 0 (.int .i64 (k:Nat))).set 1 (.int .i64 l) |>.set 2 (.int .i64 c)
     have hBE:=(((oz HS).bel.setCell (p:=⟨w.heap.size,0,none⟩) (Nat.le_refl _) (.int .i64 (k:Nat))).setCell (p:=⟨w.heap.size,1,none⟩) (Nat.le_refl _) (.int .i64 l)).setCell (p:=⟨w.heap.size,2,none⟩) (Nat.le_refl _) (.int .i64 c)
     have e0:=hE.cell 0
     have e1:=hE.cell 1
     have e2:=hE.cell 2
     have HBE:=kz hBE
     clear hE hBE
     cases o
     ·exfalso
      have q:I+1=I+d:=hwd
      omega
     ·have hd1:d=n:=by have q:I+n=I+d:=hwd;omega
      subst hd1
      clear hwd
      go_wp2_with fail
      refine (oz HSQ _).mono ?_
      rintro e w3 ⟨rfl,rfl⟩
      go_wp2_with fail
      exact bodyPost_ret (v := .agg #[.int .i64 (k:Nat),.int .i64 l,.int .i64 c]) (by simp [results,Tryz.results46,go_sem,e0,e1,e2]) rfl ⟨by rw [oz HW1],oz HBE⟩
    ·have hend':¬ (k:Int) < (I:Int)+(d:Int):=by omega
     clear r0 r1 r2 rf0 rf1 rf2
     by_cases hb10:b=10
     ·have hb10':((b:Int) == 10)=true:=by rw [beq_iff_eq];omega
      have hnew:zdI s (I+d)=(l+1,1):=by rw [oz HST2,if_pos hb10]
      have p2:=(oz HBW).set 2 (.int .i64 ((c:Int)+1))
      have p21:=p2.cell 1
      have p2f:=p2.frozen 1
      have p3:=p2.set 1 (.int .i64 ((l:Int)+1))
      have p3f:=p3.frozen 2
      have p4:=p3.set 2 (.int .i64 1)
      have HNEW:Hz (WhSt s w (((w2.setCell ⟨w.heap.size+1,2,none⟩ (.int .i64 ((c:Int)+1))).setCell ⟨w.heap.size+1,1,none⟩ (.int .i64 ((l:Int)+1))).setCell ⟨w.heap.size+1,2,none⟩ (.int .i64 1)) k (I+d)):=kz ⟨(((oz HBR).other (by omega) _).other (by omega) _).other (by omega) _,by rw [hnew];exact p4,(((oz HS).bel.setCell (p:=⟨w.heap.size+1,2,none⟩) (by simp) _).setCell (p:=⟨w.heap.size+1,1,none⟩) (by simp) _).setCell (p:=⟨w.heap.size+1,2,none⟩) (by simp) _,oz HNX⟩
      clear hnew p2 p3 p4 HST2 HNX HCU HLC hb10
      cases o
      ·have hd1:d=1:=by have q:I+1=I+d:=hwd;omega
       subst hd1
       clear hwd
       go_wp2_with fail
       refine (oz HSQ _).mono ?_
       rintro e w3 ⟨rfl,rfl⟩
       go_wp2_with fail
       go_roundw
       case rel =>exact ⟨_,by omega,by go_num,HNEW⟩
       case measure =>simp [intOf];omega
      ·have hd1:d=n:=by have q:I+n=I+d:=hwd;omega
       subst hd1
       clear hwd
       go_wp2_with fail
       refine (oz HSQ _).mono ?_
       rintro e w3 ⟨rfl,rfl⟩
       go_wp2_with fail
       go_roundw
       case rel =>exact ⟨_,by omega,by go_num,HNEW⟩
       case measure =>simp [intOf];omega
     ·have hb10':((b:Int) == 10)=false:=by rw [beq_eq_false_iff_ne];omega
      have hnew:zdI s (I+d)=(l,c+1):=by rw [oz HST2,if_neg hb10]
      have p2:=(oz HBW).set 2 (.int .i64 ((c:Int)+1))
      have HNEW:Hz (WhSt s w (w2.setCell ⟨w.heap.size+1,2,none⟩ (.int .i64 ((c:Int)+1))) k (I+d)):=kz ⟨(oz HBR).other (by omega) _,by rw [hnew];exact p2,(oz HS).bel.setCell (p:=⟨w.heap.size+1,2,none⟩) (by simp) _,oz HNX⟩
      clear hnew p2 HST2 HNX HCU HLC hb10
      cases o
      ·have hd1:d=1:=by have q:I+1=I+d:=hwd;omega
       subst hd1
       clear hwd
       go_wp2_with fail
       refine (oz HSQ _).mono ?_
       rintro e w3 ⟨rfl,rfl⟩
       go_wp2_with fail
       go_roundw
       case rel =>exact ⟨_,by omega,by go_num,HNEW⟩
       case measure =>simp [intOf];omega
      ·have hd1:d=n:=by have q:I+n=I+d:=hwd;omega
       subst hd1
       clear hwd
       go_wp2_with fail
       refine (oz HSQ _).mono ?_
       rintro e w3 ⟨rfl,rfl⟩
       go_wp2_with fail
       go_roundw
       case rel =>exact ⟨_,by omega,by go_num,HNEW⟩
       case measure =>simp [intOf];omega
   ·have hik':¬ (I:Int) < (k:Int):=by omega
    have hIk:I=k:=by omega
    obtain ⟨l,c,hlc⟩:∃ l c,zdI s I=(l,c):=⟨_,_,rfl⟩
    have hw1:whL s k=(l,c):=by rw [whL_bd s k (hIk ▸ (oz HS).bd), ← hIk,hlc]
    rw [hlc] at hbW
    have HW1:=kz hw1
    have c0:=hbW.cell 0
    have c1:=hbW.cell 1
    have c2:=hbW.cell 2
    have hE:=(hbR.set 0 (.int .i64 (k:Nat))).set 1 (.int .i64 l) |>.set 2 (.int .i64 c)
    have hBE:=(((oz HS).bel.setCell (p:=⟨w.heap.size,0,none⟩) (Nat.le_refl _) (.int .i64 (k:Nat))).setCell (p:=⟨w.heap.size,1,none⟩) (Nat.le_refl _) (.int .i64 l)).setCell (p:=⟨w.heap.size,2,none⟩) (Nat.le_refl _) (.int .i64 c)
    have e0:=hE.cell 0
    have e1:=hE.cell 1
    have e2:=hE.cell 2
    have HBE:=kz hBE
    clear hE hBE hw1 hlc hIk hbR hbW
    go_wp2_with fail
    exact bodyPost_ret (v := .agg #[.int .i64 (k:Nat),.int .i64 l,.int .i64 c]) (by simp [results,Tryz.results46,go_sem,e0,e1,e2]) rfl ⟨by rw [oz HW1],oz HBE⟩
theorem zje (s:ByteArray) (a k:Nat) (h:a≤s.size):(rst s a).extract k (rst s a).size=rst s (a+k):=by
 unfold rst
 rw [ByteArray.size_extract,ByteArray.extract_extract,Nat.min_self]
 congr 1
 omega
theorem zaK (s:ByteArray) (a k:Nat) (h:a≤s.size):bt (rst s a) k=bt s (a+k):=by unfold bt;rw [zbN s a k h]
theorem zgh (t:ByteArray) (a:Nat) (ha:a≤t.size):∀ f k,zbk t f (a+k)=(a+(zbk (rst t a) f k).1,(zbk (rst t a) f k).2)
 | 0,k =>by
  unfold zbk
  rw [zah,Prod.mk.injEq]
  exact ⟨by show t.size=a+(t.size - a);omega,rfl⟩
 | f+1,k =>by
  unfold zbk
  rw [zaK t a k ha,zje t a k ha,zah]
  by_cases h:a+k < t.size
  ·rw [if_pos h,if_pos (show k < t.size - a by omega)]
   by_cases hb:zca (bt t (a+k))=true
   ·rw [if_pos hb,if_pos hb]
    exact zgh t a ha f (k+1)
   ·rw [if_neg hb,if_neg hb]
    by_cases hr:bt t (a+k)=35
    ·rw [if_pos hr,if_pos hr]
     show (if (zeh (rst t (a+k))).2=true then _ else _)=_
     by_cases ho:(zeh (rst t (a+k))).2=true
     ·rw [if_pos ho,if_pos ho,Nat.add_assoc]
      exact zgh t a ha f _
     ·rw [if_neg ho,if_neg ho,Nat.add_assoc]
    ·rw [if_neg hr,if_neg hr]
  ·rw [if_neg h,if_neg (show ¬ k < t.size - a by omega),Prod.mk.injEq]
   exact ⟨by show t.size=a+(t.size - a);omega,rfl⟩
theorem zkj (t:ByteArray) (h:0 < t.size) (hb:bt t 0≠10):1≤zd0 t:=by
 unfold zd0
 rw [zbx h (by simp [hb])]
 exact (zbT _ (by omega)).1
theorem zim (t:ByteArray) (h:0 < t.size) (hb:bt t 0≠10) (ho:(zeh t).2=true):1≤(zeh t).1∧(zeh t).1≤t.size:=by
 have h1:=zkj t h hb
 have h2:=zer t
 unfold zeh at ho ⊢
 split at ho
 ·rename_i e
  show 1≤(t.extract 0 (zd0 t)).size∧(t.extract 0 (zd0 t)).size≤_
  rw [ByteArray.size_extract]
  omega
 ·cases ho
theorem zhI (t:ByteArray):∀ f g n,t.size≤n+f→t.size≤n+g→n≤t.size→zbk t f n=zbk t g n
 | 0,0,n,_,_,_ =>rfl
 | 0,g+1,n,h,_,_ =>by unfold zbk;rw [if_neg (by omega)]
 | f+1,0,n,_,h,_ =>by unfold zbk;rw [if_neg (by omega)]
 | f+1,g+1,n,h1,h2,hn =>by
  unfold zbk
  by_cases h:n < t.size
  ·rw [if_pos h,if_pos h]
   by_cases hb:zca (bt t n)=true
   ·rw [if_pos hb,if_pos hb]
    exact zhI t f g (n+1) (by omega) (by omega) (by omega)
   ·rw [if_neg hb,if_neg hb]
    by_cases hr:bt t n=35
    ·rw [if_pos hr,if_pos hr]
     by_cases ho:(zeh (t.extract n t.size)).2=true
     ·rw [if_pos ho,if_pos ho]
      have hz:0 < (rst t n).size:=by rw [zah];omega
      have h0:bt (rst t n) 0=35:=by rw [zaK t n 0 (by omega)];exact hr
      have hp:=zim (rst t n) hz (by rw [h0];decide) ho
      rw [zah] at hp
      show zbk t f (n+(zeh (rst t n)).1)=zbk t g (n+(zeh (rst t n)).1)
      exact zhI t f g _ (by omega) (by omega) (by omega)
     ·rw [if_neg ho,if_neg ho]
    ·rw [if_neg hr,if_neg hr]
  ·rw [if_neg h,if_neg h]
def zcS (s:ByteArray) (p:Nat):Nat × Bool:=(p+(zd2 (rst s p)).1,(zd2 (rst s p)).2)
theorem ziL (s:ByteArray) (p k f:Nat) (hp:p+k≤s.size) (hf:s.size≤p+k+f):(p+(zbk (rst s p) f k).1,(zbk (rst s p) f k).2)=zcS s (p+k):=by
 unfold zcS zd2
 have h:=zgh (rst s p) k (by rw [zah];omega) f 0
 rw [Nat.add_zero] at h
 have e:rst (rst s p) k=rst s (p+k):=zje s p k (by omega)
 rw [e] at h
 rw [h,zhI (rst s (p+k)) f (rst s (p+k)).size 0 (by rw [zah];omega) (by omega) (by omega),Prod.mk.injEq]
 exact ⟨by show p+(k+_)=_;omega,rfl⟩
theorem zkA (s:ByteArray) (p:Nat) (h:s.size≤p) (h2:p≤s.size):zcS s p=(p,true):=by
 obtain rfl:p=s.size:=by omega
 unfold zcS
 have e:rst s s.size=ByteArray.empty:=za4 _ (by rw [zah];omega)
 rw [e]
 rfl
theorem zgW (s:ByteArray) (p:Nat) (h:p < s.size) (hb:zca (bt s p)=true):zcS s p=zcS s (p+1):=by
 rw [← ziL s p 1 (s.size - p - 1) (by omega) (by omega)]
 unfold zcS zd2
 have hz:=zah s p
 obtain ⟨f,hf⟩:∃ f,s.size - p=f+1:=⟨s.size - p - 1,by omega⟩
 have e:zbk (rst s p) (rst s p).size 0=zbk (rst s p) (s.size - p - 1) 1:=by
  rw [hz,show s.size - p - 1=f by omega,hf]
  conv =>lhs;unfold zbk
  rw [if_pos (by omega),zaK s p 0 (by omega),Nat.add_zero,if_pos hb]
 rw [e]
theorem gapA_stop (s:ByteArray) (p:Nat) (h:p < s.size) (hb:zca (bt s p)=false) (hr:bt s p≠35):zcS s p=(p,true):=by
 unfold zcS
 have hg:zd2 (rst s p)=(0,true):=by
  have hz:=zah s p
  unfold zd2
  obtain ⟨f,hf⟩:∃ f,s.size - p=f+1:=⟨s.size - p - 1,by omega⟩
  rw [hz,hf]
  unfold zbk
  rw [if_pos (by omega),zaK s p 0 (by omega),Nat.add_zero,if_neg (by rw [hb];decide),if_neg hr]
 rw [hg]
 rfl
theorem gapA_sharp (s:ByteArray) (p:Nat) (h:p < s.size) (hr:bt s p=35):zcS s p=if (zeh (rst s p)).2=true then zcS s (p+(zeh (rst s p)).1) else (p+(zeh (rst s p)).1,false):=by
 have hz:=zah s p
 obtain ⟨f,hf⟩:∃ f,s.size - p=f+1:=⟨s.size - p - 1,by omega⟩
 have h0:bt (rst s p) 0=35:=by rw [zaK s p 0 (by omega)];exact hr
 have e:zbk (rst s p) (rst s p).size 0=if (zeh (rst s p)).2=true then zbk (rst s p) f ((zeh (rst s p)).1) else ((zeh (rst s p)).1,false):=by
  rw [hz,hf]
  conv =>lhs;unfold zbk
  have hx:(rst s p).extract 0 (rst s p).size=rst s p:=ByteArray.extract_zero_size
  rw [if_pos (by omega),h0,if_neg (by decide),if_pos rfl,hx,Nat.zero_add]
 by_cases ho:(zeh (rst s p)).2=true
 ·have hp:=zim (rst s p) (by omega) (by rw [h0];decide) ho
  rw [if_pos ho] at e ⊢
  rw [← ziL s p _ f (by omega) (by omega)]
  show (p+(zbk (rst s p) (rst s p).size 0).1,(zbk (rst s p) (rst s p).size 0).2)=_
  rw [e]
 ·rw [if_neg ho] at e ⊢
  show (p+(zbk (rst s p) (rst s p).size 0).1,(zbk (rst s p) (rst s p).size 0).2)=_
  rw [e]
def zbj (s:ByteArray) (p:Nat):Nat:=p+zd0 (rst s p)
def zj9 (s:ByteArray) (p:Nat):Nat × Bool:=match zbv (s.extract p (zbj s p)) with
 | none =>zcS s (zbj s p)
 | some x =>(p+x+zaZ ((s.extract p (zbj s p)).extract x (s.extract p (zbj s p)).size),false)
theorem zfL (s:ByteArray) (p:Nat) (h:p≤s.size):p≤zbj s p∧zbj s p≤s.size:=by
 have:=zer (rst s p)
 rw [zah] at this
 unfold zbj
 omega
theorem zfq (q:Nat→Bool) (hi a:Nat):∀ k n,hi≤n+k→za2 q (a+hi) (a+n)=a+za2 (fun j =>q (a+j)) hi n
 | 0,n,h =>by rw [zaC (by omega),zaC (by omega)]
 | k+1,n,h =>by
  by_cases hn:n < hi
  ·cases hp:q (a+n) with
   | true =>rw [zbx (by omega) hp,zbx (p:=fun j =>q (a+j)) hn hp];exact zfq q hi a k (n+1) (by omega)
   | false =>rw [zbb hp,zbb (p:=fun j =>q (a+j)) hp]
  ·rw [zaC (by omega),zaC hn]
theorem zfM (s:ByteArray) (p:Nat) (h:p≤s.size):zbj s p=za2 (fun n => !decide (bt s n=10)) s.size p:=by
 unfold zbj zd0
 rw [zah]
 have:=zfq (fun n => !decide (bt s n=10)) (s.size - p) p (s.size - p) 0 (by omega)
 rw [Nat.add_zero,show p+(s.size - p)=s.size by omega] at this
 have hf:(fun n => !decide (bt (rst s p) n=10))=(fun j => !decide (bt s (p+j)=10)):=by funext j;rw [zaK s p j h]
 rw [this,hf]
theorem zf1 (q:Nat→Bool) (hi:Nat):∀ k n,hi≤n+k→za2 q hi n < hi→q (za2 q hi n)=false
 | 0,n,h,hl =>by rw [zaC (by omega)] at hl;omega
 | k+1,n,h,hl =>by
  by_cases hn:n < hi
  ·cases hp:q n with
   | true =>rw [zbx hn hp] at hl ⊢;exact zf1 q hi k (n+1) (by omega) hl
   | false =>rw [zbb hp];exact hp
  ·rw [zaC hn] at hl;omega
theorem lnEnd_on (s:ByteArray) (p d:Nat) (h:p+d≤s.size) (hn:∀ j,p≤j→j < p+d→bt s j≠10):zbj s p=zbj s (p+d):=by
 rw [zfM s p (by omega),zfM s (p+d) h]
 exact zcG (p:=fun n => !decide (bt s n=10)) d p rfl h (fun j h1 h2 =>by simp [hn j h1 h2])
theorem remA_end (s:ByteArray) (p:Nat) (h:p=s.size):zj9 s p=(p,true):=by
 subst h
 have e:=zfL s s.size (Nat.le_refl _)
 have e1:zbj s s.size=s.size:=by omega
 unfold zj9
 have e2:s.extract s.size (zbj s s.size)=ByteArray.empty:=za4 _ (by rw [ByteArray.size_extract];omega)
 rw [e2,e1]
 exact zkA s s.size (Nat.le_refl _) (Nat.le_refl _)
theorem remA_nl (s:ByteArray) (p:Nat) (h:p < s.size) (hb:bt s p=10):zj9 s p=zcS s (p+1):=by
 have e1:zbj s p=p:=by rw [zfM s p (by omega)];exact zbb (by simp [hb])
 unfold zj9
 have e2:s.extract p (zbj s p)=ByteArray.empty:=za4 _ (by rw [ByteArray.size_extract];omega)
 rw [e2,e1]
 exact zgW s p h (by rw [hb];decide)
theorem zkD {α β : Type} (f : α→β) (q : β→Bool):∀ l:List α,(l.map f).find? q=(l.find? (fun a =>q (f a))).map f
 | [] =>rfl
 | a::l =>by
  rw [List.map_cons]
  by_cases h:q (f a)=true
  ·rw [List.find?_cons_of_pos h,List.find?_cons_of_pos (p:=fun a =>q (f a)) h];rfl
  ·rw [List.find?_cons_of_neg h,List.find?_cons_of_neg (p:=fun a =>q (f a)) h];exact zkD f q l
theorem zfD (v u:ByteArray) (hb:bdB (v++u) v.size=true) (hv:∀ i ∈ zaw v,zbe v i=false):zbv (v++u)=(zbv u).map (v.size + ·):=by
 obtain ⟨e,hd⟩:=zeo v u hb
 unfold zbv
 rw [e,List.find?_append]
 have h1:(zaw v).find? (zbe (v++u))=none:=by
  rw [List.find?_eq_none]
  intro i hi
  have e2:zbe (v++u) i=zbe v i:=by unfold zbe;simp only [rn,wd,hd i hi]
  rw [e2,hv i hi]
  decide
 rw [h1,Option.none_or,zkD]
 congr 2
 funext j
 unfold zbe
 simp only [rn,wd,zb7]
theorem zjm (s:ByteArray) (p d:Nat) (hd:p+d≤s.size) (hn:∀ j,p≤j→j < p+d→bt s j≠10) (hv:∀ i ∈ zaw (s.extract p (p+d)),zbe (s.extract p (p+d)) i=false):zj9 s p=zj9 s (p+d):=by
 have e0:=lnEnd_on s p d hd hn
 have hl:=zfL s (p+d) hd
 have hcat:s.extract p (p+d)++s.extract (p+d) (zbj s (p+d))=s.extract p (zbj s (p+d)):=by
  rw [ByteArray.extract_append_extract]
  congr 1 <;> omega
 have hz:(s.extract p (p+d)).size=d:=by rw [ByteArray.size_extract];omega
 have hj:=zcu (s.extract p (p+d)) (s.extract (p+d) (zbj s (p+d))) hv
 rw [zfN] at hj
 have hbo:=zfD _ _ hj hv
 rw [hcat,hz] at hbo
 unfold zj9
 rw [e0,hbo]
 cases hq:zbv (s.extract (p+d) (zbj s (p+d))) with
 | none =>rfl
 | some x =>
  show (p+(d+x)+zaZ _,false)=(p+d+x+zaZ _,false)
  have e1:(s.extract p (zbj s (p+d))).extract (d+x) (s.extract p (zbj s (p+d))).size=(s.extract (p+d) (zbj s (p+d))).extract x (s.extract (p+d) (zbj s (p+d))).size:=by
   rw [ByteArray.size_extract,ByteArray.size_extract,ByteArray.extract_extract,ByteArray.extract_extract]
   congr 1 <;> omega
  rw [e1,Nat.add_assoc p d x]
theorem zin (s:ByteArray) (p:Nat) (h:p < s.size) (hb:bt s p≠10) (hg:zbe s p=false):zj9 s p=zj9 s (p+wd s p):=by
 have hr:=zbC s p h
 have hz:(s.extract p (p+wd s p)).size=wd s p:=by rw [ByteArray.size_extract];have:=zbh s p;omega
 refine zjm s p (wd s p) hr (fun j h1 h2 =>?_) ?_
 ·by_cases e:j=p
  ·rw [e];exact hb
  ·have:=zhf s p (j - p) (by omega) (by omega)
   rw [show p+(j - p)=j by omega] at this
   omega
 ·have hcat:s.extract p (p+wd s p)++s.extract (p+wd s p) s.size=rst s p:=by
   rw [ByteArray.extract_append_extract]
   congr 1 <;> omega
  have hd:Utf8.decode (rst s p) 0=Utf8.decode s p:=zbO s p 0 (by omega)
  have hp:=zbh s p
  have e:=zdE (s.extract p (p+wd s p)) (s.extract (p+wd s p) s.size) 0 (by omega) (by rw [hcat,hz];unfold wd;rw [hd];omega)
  rw [hcat,hd] at e
  have hs:zaw (s.extract p (p+wd s p))=[0]:=by
   unfold zaw
   obtain ⟨m,hm⟩:∃ m,(s.extract p (p+wd s p)).size=m+1:=⟨wd s p - 1,by omega⟩
   rw [hm,zas _ m 0 (by omega),zav _ _ _ (by show ¬ 0+(Utf8.decode _ 0).2 < _;rw [e];show ¬ 0+wd s p < _;omega)]
  intro i hi
  rw [hs] at hi
  obtain rfl:i=0:=by simpa using hi
  unfold zbe rn wd at hg ⊢
  rw [e]
  exact hg
theorem zgq (s:ByteArray) (i:Nat) (h:bt s i < 128):zbe s i=false:=by
 have t:=zcj s i
 unfold zbe
 refine decide_eq_false ?_
 rintro ⟨a,b⟩
 rcases t.one b with q | q
 ·omega
 ·simp only [rn] at a;omega
theorem gapA_rem (s:ByteArray) (p:Nat) (h:p < s.size) (hr:bt s p=35):zcS s p=zj9 s (p+1):=by
 have hb:zbe s p=false:=zgq s p (by omega)
 have hw:wd s p=1:=by
  rcases Nat.lt_or_ge (wd s p) 2 with q | q
  ·have:=zbh s p;omega
  ·have:=zdv s p q;omega
 rw [← hw, ← zin s p h (by omega) hb,gapA_sharp s p h hr]
 have hl:=zfL s p (by omega)
 have e1:(rst s p).extract 0 (zd0 (rst s p))=s.extract p (zbj s p):=by
  unfold zbj rst
  rw [ByteArray.extract_extract,Nat.add_zero]
  congr 1
  have:=zer (rst s p)
  rw [zah] at this
  unfold rst at this
  omega
 have hz:(s.extract p (zbj s p)).size=zbj s p - p:=by rw [ByteArray.size_extract];omega
 have e2:zeh (rst s p)=match zbv (s.extract p (zbj s p)) with
  | none =>(zbj s p - p,true)
  | some x =>(x+zaZ ((s.extract p (zbj s p)).extract x (s.extract p (zbj s p)).size),false):=by
  unfold zeh
  rw [e1]
  cases zbv (s.extract p (zbj s p)) with
  | none =>show (_,true)=(_,true);rw [hz]
  | some x =>rfl
 unfold zj9
 cases hq:zbv (s.extract p (zbj s p)) with
 | none =>
  rw [hq] at e2
  rw [e2]
  show (if true=true then zcS s (p+(zbj s p - p)) else _)=_
  rw [if_pos rfl,show p+(zbj s p - p)=zbj s p by omega]
 | some x =>
  rw [hq] at e2
  rw [e2]
  show (if false=true then _ else (p+(x+zaZ _),false))=(p+x+zaZ _,false)
  rw [if_neg (by decide),Nat.add_assoc]
theorem first_bad (t:ByteArray) (h:0 < t.size) (hs:(zay (bt t 0)).1≠0) (hb:zbe t 0=true):∃ k,1≤k∧k < zcb (bt t 0)∧(∀ j,1≤j→j < k→zdp t j=true)∧zdp t k=false:=by
 have hne:¬ ∀ j,1≤j→j < zcb (bt t 0)→zdp t j=true:=fun q =>by
  have e:=zh5 h hs q
  unfold zbD at e
  rw [if_neg (by omega),if_pos hb] at e
  exact absurd (congrArg (fun x =>x.2.2) e) (by simp)
 have hsz:=zbW (bt t 0)
 cases g1:zdp t 1 with
 | false =>exact ⟨1,by omega,by omega,fun j a b =>by omega,g1⟩
 | true =>
  by_cases h3:zcb (bt t 0)=2
  ·exact absurd (fun j a b => by obtain rfl : j = 1 := by omega
                                 exact g1) hne
  ·cases g2:zdp t 2 with
   | false => exact ⟨2, by omega, by omega, fun j a b => by obtain rfl : j = 1 := by omega
                                                            exact g1,g2⟩
   | true =>
    by_cases h4:zcb (bt t 0)=3
    ·refine absurd (fun j a b =>?_) hne
     have:j=1∨j=2:=by omega
     rcases this with rfl | rfl
     ·exact g1
     ·exact g2
    ·cases g3:zdp t 3 with
     | false =>
      refine ⟨3,by omega,by omega,fun j a b =>?_,g3⟩
      have:j=1∨j=2:=by omega
      rcases this with rfl | rfl
      ·exact g1
      ·exact g2
     | true =>
      refine absurd (fun j a b =>?_) hne
      have:j=1∨j=2∨j=3:=by omega
      rcases this with rfl | rfl | rfl
      ·exact g1
      ·exact g2
      ·exact g3
theorem zjU (t:ByteArray) (m:Nat) (h1:1≤m) (hm:m≤t.size) (he:m=t.size∨bt t m=10) (hb:zbe t 0=true):zaZ (t.extract 0 m)=zaZ t:=by
 have hz:(t.extract 0 m).size=m:=by rw [ByteArray.size_extract];omega
 have h0:bt (t.extract 0 m) 0=bt t 0:=zdK t m 0 (by omega) hm
 by_cases hs:(zay (bt t 0)).1=0
 ·rw [zey t (by omega) hs,zey _ (by omega) (by rw [h0];exact hs)]
 ·obtain ⟨k,k1,k2,k3,k4⟩:=first_bad t (by omega) hs hb
  have hq:=zeE _ hs
  have hkm:k≤m:=by
   rcases Nat.lt_or_ge m k with q | q
   ·have g:=zbI.1 (k3 m h1 q)
    rcases he with e | e
    ·omega
    ·rw [e] at g
     split at g <;> omega
   ·exact q
  rw [zex t hs k k1 k2 k3 k4 (by omega)]
  refine zex _ (by rw [h0];exact hs) k k1 (by rw [h0];exact k2) (fun j a b =>?_) ?_ (by omega)
  ·have g:=zbI.1 (k3 j a b)
   refine zbI.2 ⟨by omega, ?_⟩
   rw [h0,zdK t m j (by omega) hm]
   exact g.2
  ·rw [Bool.eq_false_iff]
   intro g
   have g:=zbI.1 g
   rw [h0,zdK t m k (by omega) hm] at g
   rw [zbI.2 ⟨by omega,g.2⟩] at k4
   cases k4
theorem bad_line (s:ByteArray) (p L:Nat) (hln:p < L) (hl:L≤s.size) (hend:L=s.size∨bt s L=10) (hb:zbe s p=true):zbv (s.extract p L)=some 0∧zaZ (s.extract p L)=zaZ (rst s p):=by
 have hz:(s.extract p L).size=L - p:=by rw [ByteArray.size_extract];omega
 have e1:(rst s p).extract 0 (L - p)=s.extract p L:=by
  unfold rst
  rw [ByteArray.extract_extract,Nat.add_zero,show min (p+(L - p)) s.size=L by omega]
 have hd:Utf8.decode (rst s p) 0=Utf8.decode s p:=zbO s p 0 (by omega)
 have hbt:zbe (rst s p) 0=true:=by unfold zbe rn wd at hb ⊢;rw [hd];exact hb
 have hbu:zbe (s.extract p L) 0=true:=by
  cases q:zbe (s.extract p L) 0 with
  | true =>rfl
  | false =>
   have hg:¬ (rn (s.extract p L) 0=65533∧wd (s.extract p L) 0=1):=by simpa [zbe] using q
   have hcat:s.extract p L++s.extract L s.size=rst s p:=by rw [ByteArray.extract_append_extract,Nat.min_eq_left (by omega),Nat.max_eq_right hl]
   have:=zci (s.extract p L) (s.extract L s.size) 0 (by omega) hg
   rw [hcat] at this
   have e:zbe (rst s p) 0=zbe (s.extract p L) 0:=by unfold zbe;simp only [rn,wd,this]
   rw [e,q] at hbt
   exact hbt
 refine ⟨?_, ?_⟩
 ·unfold zbv
  obtain ⟨r,hr⟩:=zen (s.extract p L) (by omega)
  rw [hr,List.find?_cons_of_pos hbu]
 ·have:=zjU (rst s p) (L - p) (by omega) (by rw [zah];omega) (by
   rcases hend with e | e
   ·left;rw [zah,e]
   ·right;rw [zaK s p _ (by omega),show p+(L - p)=L by omega];exact e) hbt
  rwa [e1] at this
theorem remA_bad (s:ByteArray) (p:Nat) (h:p < s.size) (hb:zbe s p=true):zj9 s p=(p+zaZ (rst s p),false):=by
 have hb10:bt s p≠10:=fun e =>by rw [zgq s p (by omega)] at hb;cases hb
 have hln:p < zbj s p:=by
  have:=zkj (rst s p) (by rw [zah];omega) (by rw [zaK s p 0 (by omega)];exact hb10)
  unfold zbj
  omega
 have hl:=zfL s p (by omega)
 have hend:zbj s p=s.size∨bt s (zbj s p)=10:=by
  by_cases q:zbj s p < s.size
  ·right
   have:=zf1 (fun n => !decide (bt s n=10)) s.size (s.size - p) p (by omega)
   rw [← zfM s p (by omega)] at this
   simpa using this q
  ·left;omega
 unfold zj9
 generalize zbj s p=L at *
 obtain ⟨e1,e2⟩:=bad_line s p L hln hl.2 hend hb
 rw [e1]
 show (p+0+zaZ ((s.extract p L).extract 0 (s.extract p L).size),false)=_
 rw [ByteArray.extract_zero_size,e2,Nat.add_zero]
end Go.Proofs.YtmdgejgokoadlaaGreatDoor
