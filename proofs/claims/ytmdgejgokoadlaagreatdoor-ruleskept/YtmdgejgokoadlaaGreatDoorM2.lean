/- Texts of this claim, one behind the other. -/
import Derived.Test.YtmdgejgokoadlaaGreatDoorM1
import Derived.Laws.Cover4
import Derived.Laws.IdiomStrings
/- Count, Runes, Clean and Valid, zhj for every text that is not too great. -/
namespace Go.Proofs.YtmdgejgokoadlaaGreatDoor
open Go.RowKit Go.Shelf
attribute [local go_sem] Oper.semAt_some
set_option linter.unusedVariables false

set_option maxRecDepth 100000 in
set_option maxHeartbeats 2000000 in
theorem count_any (s:ByteArray) (hs:s.size≤maxLen) (w:World):Calls Tryz.prog 61 #[.string s] w fun e w' =>e=.returned (.int .i64 (zaw s).length)∧Below w.heap.size w w':=by
 unfold maxLen at hs
 go_enter Tryz.func61,Tryz.ntmps61
 go_wp2
 go_loopw [3] (fun n w' => ∃ (pre:List Nat) (pos f:Nat),w'=w.iter s pos∧n=.int .i64 pre.length∧Hz (zaw s=pre++zaj s f pos)∧s.size≤pos+f) (fun _ w' =>s.size - w'.iterPos w.heap.size)
 case atStart =>exact ⟨[],0,s.size,rfl,rfl,kz rfl,by omega⟩
 case round =>
  obtain ⟨pre,pos,f,rfl,rfl,HS,hf⟩:=hrel
  by_cases hp:pos < s.size
  ·have hnx:∀ ty,(Instr.next (.pointer (some ⟨w.heap.size,0,none⟩)) true ty).run Tryz.prog (w.iter s pos)=_:=fun ty =>run_next_any w s pos ty hp
   have hpl:(pre.length:Int) < 2 ^ 63 - 1:=by
    have h1:=zbL s
    obtain ⟨g,rfl⟩:∃ g,f=g+1:=⟨f - 1,by omega⟩
    rw [oz HS,List.length_append,zas s g pos hp] at h1
    simp at h1
    omega
   go_wp2
   have hwd:=zbh s pos
   go_roundw
   case rel =>
    refine ⟨pre++[pos],pos+wd s pos,f - 1,rfl, ?_,kz ?_,by omega⟩
    ·rw [List.length_append];go_num
    ·obtain ⟨g,rfl⟩:∃ g,f=g+1:=⟨f - 1,by omega⟩
     rw [oz HS,zas s g pos hp];simp
   case measure =>
    simp
    simp only [wd] at hwd
    omega
  ·have hnx:∀ ty,(Instr.next (.pointer (some ⟨w.heap.size,0,none⟩)) true ty).run Tryz.prog (w.iter s pos)=_:=fun ty =>run_next_end w s pos ty hp
   have hst:=oz HS
   rw [zav s f pos hp,List.append_nil] at hst
   have HST:=kz hst
   clear hst HS
   go_wp2
   go_ret
   exact ⟨by rw [oz HST];rfl,(Below.refl _ _).alloc (Nat.le_refl _) _⟩

def zaA (s:ByteArray):List Int:=(zaw s).map (fun i =>((rn s i:Nat):Int))
theorem zdx (s:ByteArray):(zaA s).length=(zaw s).length:=by simp [zaA]

def cleanV (s:ByteArray):ByteArray:=runesBytes (zaA s)

def zbe (s:ByteArray) (i:Nat):Bool:=decide (rn s i=65533∧wd s i=1)
def zcJ (s:ByteArray):List Nat→Nat→Value
 | [],_ =>.tuple #[.agg #[.int .i64 0,.int .i64 0],.bool true]
 | i::l,n =>if zbe s i then .tuple #[.agg #[.int .i64 i,.int .i64 n],.bool false] else zcJ s l (n+1)
def zeB (s:ByteArray):Value:=zcJ s (zaw s) 0
theorem zdc (s:ByteArray):∀ (l:List Nat) (n:Nat),(∀ i ∈ l,zbe s i=false)→zcJ s l n=.tuple #[.agg #[.int .i64 0,.int .i64 0],.bool true]
 | [],_,_ =>rfl
 | i::l,n,h =>by
  unfold zcJ
  rw [if_neg (by rw [h i (by simp)];simp)]
  exact zdc s l (n+1) (fun j hj =>h j (by simp [hj]))
theorem zdb (s:ByteArray) (x:Nat) (r:List Nat) (hx:zbe s x=true):∀ (q:List Nat) (n:Nat),(∀ i ∈ q,zbe s i=false)→zcJ s (q++x::r) n=.tuple #[.agg #[.int .i64 x,.int .i64 ((n+q.length:Nat):Int)],.bool false]
 | [],n,_ =>by simp [zcJ,hx]
 | i::q,n,h =>by
  rw [List.cons_append]
  unfold zcJ
  rw [if_neg (by rw [h i (by simp)];simp),zdb s x r hx q (n+1) (fun j hj =>h j (by simp [hj]))]
  rw [show n+1+q.length=n+(i::q).length by simp;omega]

set_option maxRecDepth 100000 in
set_option maxHeartbeats 4000000 in
theorem valid_in (n:Nat) (hn:3≤n) (s:ByteArray) (hs:s.size≤maxLen) (w:World) :
  CallsIn Fence.wide n Tryz.prog 160 #[.string s] w fun e W' =>e=.returned (zeB s)∧Below w.heap.size w W':=by
 have h1:1≤n:=by omega
 refine callsIn_of_wp_marks Tryz.func160 rfl trivial ?_ rfl
 simp only [Tryz.ntmps160,List.size_toArray,List.length_cons,List.length_nil,Nat.reduceAdd,Nat.reduceSub,Array.replicate_succ,Array.replicate_zero,List.push_toArray,List.append_toArray,List.nil_append,List.cons_append]
 gi_wp2_with (refine ⟨trivial, ?_⟩;gi_at_call 164;refine (callsIn_wide.2 (zh1 _ _)).mono ?_;rintro e w' ⟨rfl,rfl⟩)
 have hb2:=(((Blk.new w #[.int .i64 0,.int .i64 0] 247).alloc (.cells #[.bool false] 4)).alloc (.cells #[.int .i64 0] 3)).alloc (.cells #[.string s] 9)
 have hb3:=((Blk.new (w.alloc (.cells #[.int .i64 0,.int .i64 0] 247)) #[.bool false] 4).alloc (.cells #[.int .i64 0] 3)).alloc (.cells #[.string s] 9)
 have hb4:=(Blk.new ((w.alloc (.cells #[.int .i64 0,.int .i64 0] 247)).alloc (.cells #[.bool false] 4)) #[.int .i64 0] 3).alloc (.cells #[.string s] 9)
 have hbS:=Blk.new (((w.alloc (.cells #[.int .i64 0,.int .i64 0] 247)).alloc (.cells #[.bool false] 4)).alloc (.cells #[.int .i64 0] 3)) #[.string s] 9
 simp only [World.size_alloc] at hb3 hb4 hbS
 have hB0:Below w.heap.size w ((((w.alloc (.cells #[.int .i64 0,.int .i64 0] 247)).alloc (.cells #[.bool false] 4)).alloc (.cells #[.int .i64 0] 3)).alloc (.cells #[.string s] 9)):=((((Below.refl _ w).alloc (Nat.le_refl _) _).alloc (by simp) _).alloc (by simp;omega) _).alloc (by simp;omega) _
 have hsz:((((w.alloc (.cells #[.int .i64 0,.int .i64 0] 247)).alloc (.cells #[.bool false] 4)).alloc (.cells #[.int .i64 0] 3)).alloc (.cells #[.string s] 9)).heap.size=w.heap.size+4:=by simp
 obtain ⟨W0,hW0⟩:∃ W0,(((w.alloc (.cells #[.int .i64 0,.int .i64 0] 247)).alloc (.cells #[.bool false] 4)).alloc (.cells #[.int .i64 0] 3)).alloc (.cells #[.string s] 9)=W0:=⟨_,rfl⟩
 rw [hW0] at hb2 hb3 hb4 hbS hB0 hsz ⊢
 clear hW0
 refine wpIn_rangeFunc_ownH rfl h1 (gf:=181) (lb:=#[.pointer (some ⟨w.heap.size+1+1+1,0,none⟩)]) rfl trivial (enters_of Tryz.func181 (by kernel_rfl) rfl)
  (zfW (n - 1) (w.heap.size+1+1+1) (by omega) s hs W0 (hbS.cell 0)) KpS_t (KpS_b (by omega)) (Below.refl _ _) (fun _ =>rfl)
  (fun pre W =>(Hz (∀ i ∈ pre,zbe s i=false)∧Blk W w.heap.size #[.int .i64 0,.int .i64 0] 247∧Blk W (w.heap.size+1) #[.bool false] 4∧Blk W (w.heap.size+1+1) #[.int .i64 pre.length] 3∧Blk W (w.heap.size+1+1+1) #[.string s] 9)∧Below w.heap.size w W)
  (fun c pre W =>(c=.ret∧∃ q x,pre=q++[x]∧Hz (∀ i ∈ q,zbe s i=false)∧zbe s x=true∧Blk W w.heap.size #[.int .i64 x,.int .i64 (q.length:Nat)] 247∧Blk W (w.heap.size+1) #[.bool false] 4)∧Below w.heap.size w W)
  (OwnFrom.and (Own.from (fun s A B row hs hg hr =>⟨hs.1,Blk.own _ (fun _ =>_) _ () A B row hs.2.1 hg hr,Blk.own _ (fun _ =>_) _ () A B row hs.2.2.1 hg hr,Blk.own _ (fun _ =>_) _ () A B row hs.2.2.2.1 hg hr,Blk.own _ (fun _ =>_) _ () A B row hs.2.2.2.2 hg hr⟩) _) (ownFrom_below (Nat.le_refl _) (by omega)))
  (fun c =>OwnFrom.and (Own.from (fun s A B row hs hg hr =>by
   obtain ⟨hc,q,x,hx,hq,hbx,k2,k3⟩:=hs
   exact ⟨hc,q,x,hx,hq,hbx,Blk.own _ (fun _ =>_) _ () A B row k2 hg hr,Blk.own _ (fun _ =>_) _ () A B row k3 hg hr⟩) _) (ownFrom_below (Nat.le_refl _) (by omega)))
  ⟨⟨kz (fun i hi =>by cases hi),hb2,hb3,hb4,hbS⟩,hB0⟩
  (fun x a' W => ∃ Bx,w.heap.size+1+1+1 < Bx∧Blk W Bx (zaI (zdd s x)) 234∧a' = { tmps:=#[.string s,undef,.pointer (some ⟨w.heap.size,0,none⟩),.pointer (some ⟨w.heap.size+1,0,none⟩),.pointer (some ⟨w.heap.size+1+1,0,none⟩),.int .i64 x,.pointer (some ⟨Bx,0,none⟩),.string s,.func (.func 181) #[] #[.pointer (some ⟨w.heap.size+1+1+1,0,none⟩)],.int .i64 x,zb6 (zdd s x),undef,undef,undef,undef,undef,undef,undef,undef],defers := [] })
  (fun x a' =>Own.from (fun u A B row hs hg hr =>by
   obtain ⟨Bx,h1,h2,h3⟩:=hs
   exact ⟨Bx,h1,Blk.own _ (fun _ =>_) _ () A B row h2 hg hr,h3⟩) _)
  ?assign ?body ?done ?stop
 case assign =>
  rintro l pre x W K ⟨⟨hp,k2,k3,k4,kS⟩,hB⟩ hK
  gi_wp2
  exact hK _ _ ((KeepsOthers.alloc _ _).from _) ⟨(kS.alloc _).cell 0 |>.trans (kS.cell 0).symm,KeepsWalks.alloc _ _⟩ ⟨⟨hp,k2.alloc _,k3.alloc _,k4.alloc _,kS.alloc _⟩,hB.alloc hB.size _⟩ ⟨W.heap.size,kS.lt,Blk.new W _ 234,rfl⟩
 case body =>
  rintro l pre x a' W hl ⟨r,hr⟩ ⟨⟨hp,k2,k3,k4,kS⟩,hB⟩ ⟨Bx,hBx,bX,rfl⟩ hlt
  have x2:W.cell? ⟨Bx,2,none⟩=some (.bool (zbe s x)):=bX.cell 2
  have c0:=k2.cell 0
  have c1:=k2.cell 1
  have c3:=k3.cell 0
  have c4:=k4.cell 0
  have f0:=k2.frozen
  have f3:=k3.frozen
  have f4:=k4.frozen
  have hpl:(pre.length:Int) < 2 ^ 63 - 1:=by unfold maxLen at hs;omega
  cases hbx:zbe s x with
  | true =>
   rw [hbx] at x2
   have HBX:=kz hbx
   clear hbx
   gi_wp2
   refine ⟨(((KeepsOthers.setCell _ _ _).trans (KeepsOthers.setCell _ _ _)).trans (KeepsOthers.setCell _ _ _)).from _,⟨rfl,pre,x,rfl,hp,oz HBX, ?_, ?_⟩, ?_⟩
   ·exact Blk.other ((k2.set 0 _).set 1 _) (by omega) _
   ·exact ((k3.other (by omega) _).other (by omega) _).set 0 _
   ·exact ((hB.setCell (p:=⟨w.heap.size,0,none⟩) (Nat.le_refl _) _).setCell (p:=⟨w.heap.size,1,none⟩) (Nat.le_refl _) _).setCell (p:=⟨w.heap.size+1,0,none⟩) (by simp) _
  | false =>
   rw [hbx] at x2
   have HBX:=kz hbx
   clear hbx
   gi_wp2
   refine ⟨(KeepsOthers.setCell _ _ _).from _,⟨((kS.other (by omega) _).cell 0).trans (kS.cell 0).symm,(KeepsOthers.setCell _ _ _).walks⟩,⟨kz (fun i hi =>?_),k2.other (by omega) _,k3.other (by omega) _, ?_,kS.other (by omega) _⟩,hB.setCell (p:=⟨w.heap.size+1+1,0,none⟩) (by simp;omega) _⟩
   ·rcases List.mem_append.1 hi with h | h
    ·exact oz hp i h
    ·simp at h;rw [h];exact oz HBX
   ·rw [show (((pre++[x]).length:Nat):Int)=(pre.length:Int)+1 by simp]
    exact k4.set 0 _
 case done =>
  rintro D ys W hD hys ⟨⟨hne,k2,k3,_⟩,hB⟩ hK
  have hv:zeB s=.tuple #[.agg #[.int .i64 0,.int .i64 0],.bool true]:=zdc s _ 0 (by rw [← hys];exact oz hne)
  have HV:=kz hv
  have c0:=k2.cell 0
  have c1:=k2.cell 1
  have c3:=k3.cell 0
  have f0:=k2.frozen
  have f3:=k3.frozen
  clear hys hne hv
  gi_wp2
  have hK':=(((KeepsOthers.setCell W ⟨w.heap.size,0,none⟩ (.int .i64 0)).trans (KeepsOthers.setCell _ ⟨w.heap.size,1,none⟩ (.int .i64 0))).trans (KeepsOthers.setCell _ ⟨w.heap.size+1,0,none⟩ (.bool true))).same D _ hK rfl
  have k2':=Blk.other (i:=0) ((k2.set 0 (.int .i64 0)).set 1 (.int .i64 0)) (B':=w.heap.size+1) (by omega) (.bool true)
  have k3':=((k3.other (B':=w.heap.size) (i:=0) (by omega) (.int .i64 0)).other (B':=w.heap.size) (i:=1) (by omega) (.int .i64 0)).set 0 (.bool true)
  have hB':=((hB.setCell (p:=⟨w.heap.size,0,none⟩) (Nat.le_refl _) (.int .i64 0)).setCell (p:=⟨w.heap.size,1,none⟩) (Nat.le_refl _) (.int .i64 0)).setCell (p:=⟨w.heap.size+1,0,none⟩) (by simp) (.bool true)
  clear hK k2 k3 hB c0 c1 c3 f0 f3
  refine ⟨by simp,.inl ⟨_,_,rfl,run_takeDeferred hK', ?_⟩⟩
  have q2:=k2'.put (.deferred Option.none) hK' rfl
  have q3:=k3'.put (.deferred Option.none) hK' rfl
  have c0:=q2.cell 0
  have c1:=q2.cell 1
  have c3:=q3.cell 0
  refine ⟨.tuple #[.agg #[.int .i64 0,.int .i64 0],.bool true], ?_,by rw [oz HV],hB'.trans (belowK_b (w:=w) (Nat.le_refl _) _ D _ _ (by omega) hK' rfl rfl)⟩
  simp [results,Tryz.f160,go_sem,c0,c1,c3]
 case stop =>
  rintro D c pre W hD hpre ⟨⟨rfl,q,x,rfl,hq,hbx,k2,k3⟩,hB⟩ hK
  obtain ⟨r,hr⟩:=hpre
  have hv:zeB s=.tuple #[.agg #[.int .i64 x,.int .i64 (q.length:Nat)],.bool false]:=by
   unfold zeB
   rw [← hr,List.append_assoc,List.singleton_append,zdb s x r hbx q 0 (oz hq),Nat.zero_add]
  have HV:=kz hv
  clear hv hr hbx
  gi_wp2
  refine ⟨by simp,.inl ⟨_,_,rfl,run_takeDeferred hK, ?_⟩⟩
  have q2:=k2.put (.deferred Option.none) hK rfl
  have q3:=k3.put (.deferred Option.none) hK rfl
  have c0:=q2.cell 0
  have c1:=q2.cell 1
  have c3:=q3.cell 0
  refine ⟨.tuple #[.agg #[.int .i64 x,.int .i64 (q.length:Nat)],.bool false], ?_,by rw [oz HV],hB.trans (belowK_b (w:=w) (Nat.le_refl _) W D _ _ (by omega) hK rfl rfl)⟩
  simp [results,Tryz.f160,go_sem,c0,c1,c3]

theorem valid_any (s:ByteArray) (hs:s.size≤maxLen) (w:World):Calls Tryz.prog 160 #[.string s] w fun e W' =>e=.returned (zeB s)∧Below w.heap.size w W' :=
 callsIn_wide.1 (valid_in 3 (Nat.le_refl _) s hs w)
end Go.Proofs.YtmdgejgokoadlaaGreatDoor
namespace Go.Proofs.YtmdgejgokoadlaaGreatDoor
open Go.RowKit Go.Shelf
open Go.Lib (decodeN decode_at)
set_option linter.unusedVariables false

theorem ziW (n m b0 b1 b2 b3:Nat) (hnm:n≤m) (hg:¬ ((decodeN m b0 b1 b2 b3).1=65533∧(decodeN m b0 b1 b2 b3).2=1)) (hw:(decodeN m b0 b1 b2 b3).2≤n):decodeN n b0 b1 b2 b3=decodeN m b0 b1 b2 b3:=by
 by_cases h0:b0 < 128
 ·unfold decodeN;rw [if_pos h0,if_pos h0]
 by_cases h2:b0 / 32=6∧(1 < m∧b1 / 64=2)
 ·by_cases hc:b0 % 32*64+b1 % 64 ≥ 128
  ·have e:decodeN m b0 b1 b2 b3=(b0 % 32*64+b1 % 64,2):=by unfold decodeN;rw [if_neg h0,if_pos h2,if_pos hc]
   rw [e] at hw
   rw [e]
   simp only at hw
   unfold decodeN
   rw [if_neg h0,if_pos ⟨h2.1,by omega,h2.2.2⟩,if_pos hc]
  ·have e:decodeN m b0 b1 b2 b3=(65533,1):=by unfold decodeN;rw [if_neg h0,if_pos h2,if_neg hc]
   rw [e] at hg
   exact absurd ⟨rfl,rfl⟩ hg
 by_cases h3:b0 / 16=14∧(1 < m∧b1 / 64=2)∧(2 < m∧b2 / 64=2)
 ·by_cases hc:b0 % 16*4096+b1 % 64*64+b2 % 64 ≥ 2048∧(b0 % 16*4096+b1 % 64*64+b2 % 64 < 55296∨(57344≤b0 % 16*4096+b1 % 64*64+b2 % 64∧b0 % 16*4096+b1 % 64*64+b2 % 64≤1114111))
  ·have e:decodeN m b0 b1 b2 b3=(b0 % 16*4096+b1 % 64*64+b2 % 64,3):=by unfold decodeN;rw [if_neg h0,if_neg h2,if_pos h3,if_pos hc]
   rw [e] at hw
   rw [e]
   simp only at hw
   unfold decodeN
   rw [if_neg h0,if_neg (by omega),if_pos ⟨h3.1,⟨by omega,h3.2.1.2⟩,⟨by omega,h3.2.2.2⟩⟩,if_pos hc]
  ·have e:decodeN m b0 b1 b2 b3=(65533,1):=by unfold decodeN;rw [if_neg h0,if_neg h2,if_pos h3,if_neg hc]
   rw [e] at hg
   exact absurd ⟨rfl,rfl⟩ hg
 by_cases h4:b0 / 8=30∧(1 < m∧b1 / 64=2)∧(2 < m∧b2 / 64=2)∧(3 < m∧b3 / 64=2)
 ·by_cases hc:b0 % 8*262144+b1 % 64*4096+b2 % 64*64+b3 % 64 ≥ 65536∧(b0 % 8*262144+b1 % 64*4096+b2 % 64*64+b3 % 64 < 55296∨(57344≤b0 % 8*262144+b1 % 64*4096+b2 % 64*64+b3 % 64∧b0 % 8*262144+b1 % 64*4096+b2 % 64*64+b3 % 64≤1114111))
  ·have e:decodeN m b0 b1 b2 b3=(b0 % 8*262144+b1 % 64*4096+b2 % 64*64+b3 % 64,4):=by unfold decodeN;rw [if_neg h0,if_neg h2,if_neg h3,if_pos h4,if_pos hc]
   rw [e] at hw
   rw [e]
   simp only at hw
   unfold decodeN
   rw [if_neg h0,if_neg (by omega),if_neg (by omega),if_pos ⟨h4.1,⟨by omega,h4.2.1.2⟩,⟨by omega,h4.2.2.1.2⟩,⟨by omega,h4.2.2.2.2⟩⟩,if_pos hc]
  ·have e:decodeN m b0 b1 b2 b3=(65533,1):=by unfold decodeN;rw [if_neg h0,if_neg h2,if_neg h3,if_pos h4,if_neg hc]
   rw [e] at hg
   exact absurd ⟨rfl,rfl⟩ hg
 ·have e:decodeN m b0 b1 b2 b3=(65533,1):=by unfold decodeN;rw [if_neg h0,if_neg h2,if_neg h3,if_neg h4]
  rw [e] at hg
  exact absurd ⟨rfl,rfl⟩ hg
theorem ziV (n m b0 b1 b2 b3:Nat) (hnm:n≤m) (hn:1≤n) (h1:b1 < 256) (h2:b2 < 256) (h3:b3 < 256) (h0:b0 < 256) (hg:¬ ((decodeN n b0 b1 b2 b3).1=65533∧(decodeN n b0 b1 b2 b3).2=1)):decodeN m b0 b1 b2 b3=decodeN n b0 b1 b2 b3:=by
 have t:=zhj n b0 b1 b2 b3 h0 h1 h2 h3
 by_cases hm:4≤n
 ·exact zfz m n _ _ _ _ (.inr ⟨by omega,hm⟩)
 by_cases c0:b0 < 128
 ·unfold decodeN;rw [if_pos c0,if_pos c0]
 by_cases c2:b0 / 32=6∧(1 < n∧b1 / 64=2)
 ·unfold decodeN
  rw [if_neg c0,if_neg c0,if_pos c2,if_pos ⟨c2.1,by omega,c2.2.2⟩]
 by_cases c3:b0 / 16=14∧(1 < n∧b1 / 64=2)∧(2 < n∧b2 / 64=2)
 ·unfold decodeN
  rw [if_neg c0,if_neg c0,if_neg c2,if_neg (by omega),if_pos c3,if_pos ⟨c3.1,⟨by omega,c3.2.1.2⟩,⟨by omega,c3.2.2.2⟩⟩]
 ·have e:decodeN n b0 b1 b2 b3=(65533,1):=by unfold decodeN;rw [if_neg c0,if_neg c2,if_neg c3,if_neg (by omega)]
  rw [e] at hg
  exact absurd ⟨rfl,rfl⟩ hg

theorem zef (u v:ByteArray) (i:Nat):(u++v).get! i=if i < u.size then u.get! i else v.get! (i - u.size):=by
 by_cases h:i < u.size
 ·rw [if_pos h,zcy _ _ (by rw [ByteArray.size_append];omega),zcy _ _ h]
  simp [Array.getElem_append_left,h]
 ·rw [if_neg h]
  by_cases k:i < (u++v).size
  ·rw [zcy _ _ k,zcy _ _ (by rw [ByteArray.size_append] at k;omega)]
   simp [Array.getElem_append_right,Nat.le_of_not_lt h]
  ·rw [zkz _ _ (by omega),zkz _ _ (by rw [ByteArray.size_append] at k;omega)]
theorem zfm (s t:ByteArray) (i:Nat) (h:i < s.size):bt (s++t) i=bt s i:=by unfold bt;rw [zef,if_pos h]
theorem zkS (s t:ByteArray) (j:Nat):bt (s++t) (s.size+j)=bt t j:=by unfold bt;rw [zef,if_neg (by omega)];congr 2;omega

theorem zgm (s t:ByteArray) (i:Nat) (hi:i < s.size):Utf8.decode s i=decodeN (s.size - i) (bt (s++t) i) (bt (s++t) (i+1)) (bt (s++t) (i+2)) (bt (s++t) (i+3)):=by
 rw [decode_at,zfm s t i hi]
 refine zfB _ _ _ _ _ _ _ _ (fun h =>?_) (fun h =>?_) (fun h =>?_)
 ·exact (zfm s t _ (by omega)).symm
 ·exact (zfm s t _ (by omega)).symm
 ·exact (zfm s t _ (by omega)).symm
theorem zci (s t:ByteArray) (i:Nat) (hi:i < s.size) (hg:¬ (rn s i=65533∧wd s i=1)):Utf8.decode (s++t) i=Utf8.decode s i:=by
 have e:=zgm s t i hi
 simp only [rn,wd] at hg
 rw [e] at hg ⊢
 rw [decode_at]
 exact ziV _ _ _ _ _ _ (by rw [ByteArray.size_append];omega) (by omega) (zaX _ _) (zaX _ _) (zaX _ _) (zaX _ _) hg
theorem zdE (s t:ByteArray) (i:Nat) (hi:i < s.size) (hw:i+wd (s++t) i≤s.size):Utf8.decode s i=Utf8.decode (s++t) i:=by
 by_cases hg:rn s i=65533∧wd s i=1
 ·by_cases hk:rn (s++t) i=65533∧wd (s++t) i=1
  ·exact Prod.ext (hg.1.trans hk.1.symm) (hg.2.trans hk.2.symm)
  ·have e:=zgm s t i hi
   have e2:Utf8.decode (s++t) i=decodeN ((s++t).size - i) (bt (s++t) i) (bt (s++t) (i+1)) (bt (s++t) (i+2)) (bt (s++t) (i+3)):=decode_at _ _
   rw [e,e2]
   simp only [rn,wd] at hk hw
   rw [e2] at hk hw
   exact ziW _ _ _ _ _ _ (by rw [ByteArray.size_append];omega) hk (by omega)
 ·exact (zci s t i hi hg).symm
theorem zb7 (s t:ByteArray) (j:Nat):Utf8.decode (s++t) (s.size+j)=Utf8.decode t j:=by
 rw [decode_at,decode_at,ByteArray.size_append,show s.size+t.size - (s.size+j)=t.size - j by omega]
 have h:=zkS s t
 unfold bt at h
 rw [h j,show s.size+j+1=s.size+(j+1) by omega,h,show s.size+j+2=s.size+(j+2) by omega,h,show s.size+j+3=s.size+(j+3) by omega,h]

theorem zdi (s t:ByteArray):∀ f j,zaj (s++t) f (s.size+j)=(zaj t f j).map (s.size + ·)
 | 0,j =>rfl
 | f+1,j =>by
  unfold zaj
  rw [ByteArray.size_append]
  by_cases h:j < t.size
  ·rw [if_pos (by omega),if_pos h,List.map_cons]
   have e:wd (s++t) (s.size+j)=wd t j:=by simp only [wd];rw [zb7]
   rw [e,Nat.add_assoc,zdi s t f]
  ·rw [if_neg (by omega),if_neg h];rfl
theorem zcL (s:ByteArray):∀ f g i,s.size≤i+f→s.size≤i+g→zaj s f i=zaj s g i
 | 0,g,i,hf,hg =>by rw [zav s g i (by omega)];rfl
 | f+1,0,i,hf,hg =>by rw [zav s (f+1) i (by omega)];rfl
 | f+1,g+1,i,hf,hg =>by
  unfold zaj
  by_cases h:i < s.size
  ·have:=zbh s i
   rw [if_pos h,if_pos h,zcL s f g _ (by omega) (by omega)]
  ·rw [if_neg h,if_neg h]
theorem zdS (s t:ByteArray) (hb:bdB (s++t) s.size=true):∀ f i,s.size+t.size≤i+f→i≤s.size→bdB (s++t) i=true →
  zaj (s++t) f i=zaj s f i++(zaw t).map (s.size + ·)∧∀ p ∈ zaj s f i,Utf8.decode s p=Utf8.decode (s++t) p
 | 0,i,hf,hi,hbi =>by
  have:s.size=0∨t.size=0:=by omega
  have ht:t.size=0:=by omega
  refine ⟨?_,fun p hp =>by cases hp⟩
  rw [show zaw t=[] from zav t _ _ (by omega)]
  rfl
 | f+1,i,hf,hi,hbi =>by
  by_cases h:i < s.size
  ·have hw:=zbh (s++t) i
   have hr:i+wd (s++t) i≤s.size:=by
    rcases Nat.lt_or_ge s.size (i+wd (s++t) i) with hx | hx
    ·have h4:=ze0 (s++t) i
     have:=(zdu (s++t) s.size).1 hb (s.size - i) (by omega) (by omega) (by omega)
     rw [show s.size - (s.size - i)=i by omega] at this
     omega
    ·exact hx
   have e:=zdE s t i h hr
   have ew:wd s i=wd (s++t) i:=by simp only [wd];rw [e]
   obtain ⟨h1,h2⟩:=zdS s t hb f (i+wd (s++t) i) (by omega) hr (zfn (s++t) i hbi (by rw [ByteArray.size_append];omega))
   rw [zas (s++t) f i (by rw [ByteArray.size_append];omega),zas s f i h,h1,ew]
   refine ⟨rfl,fun p hp =>?_⟩
   rcases List.mem_cons.1 hp with rfl | hp
   ·exact e
   ·exact h2 p hp
  ·obtain rfl:i=s.size:=by omega
   rw [zav s _ _ h]
   refine ⟨?_,fun p hp =>by cases hp⟩
   have:=zdi s t (f+1) 0
   rw [List.nil_append,show zaw t=zaj t (f+1) 0 from zcL t _ _ _ (by omega) (by omega)]
   exact this
theorem zeo (s t:ByteArray) (hb:bdB (s++t) s.size=true):zaw (s++t)=zaw s++(zaw t).map (s.size + ·)∧(∀ p ∈ zaw s,Utf8.decode s p=Utf8.decode (s++t) p):=by
 obtain ⟨h1,h2⟩:=zdS s t hb (s.size+t.size) 0 (by omega) (by omega) (zdG _)
 have e:zaj s (s.size+t.size) 0=zaw s:=zcL s _ _ _ (by omega) (by omega)
 rw [e] at h1 h2
 refine ⟨?_,h2⟩
 unfold zaw
 rw [ByteArray.size_append]
 exact h1
theorem zf4 (s t:ByteArray) (hb:bdB (s++t) s.size=true):zaA (s++t)=zaA s++zaA t:=by
 obtain ⟨h1,h2⟩:=zeo s t hb
 unfold zaA
 rw [h1,List.map_append,List.map_map]
 congr 1
 ·refine List.map_congr_left (fun p hp =>?_)
  simp only [rn]
  rw [h2 p hp]
 ·refine List.map_congr_left (fun p hp =>?_)
  simp only [Function.comp,rn]
  rw [zb7]
theorem foldl_enc (l:List Int):∀ r:ByteArray,l.foldl (fun r n =>r++Utf8.encode n) r=r++l.foldl (fun r n =>r++Utf8.encode n) ByteArray.empty:=by
 induction l with
 | nil =>intro r;simp
 | cons a l ih =>
  intro r
  rw [List.foldl_cons,ih,List.foldl_cons,ih (ByteArray.empty++Utf8.encode a),ByteArray.append_assoc]
  simp
theorem zf6 (a b:List Int):runesBytes (a++b)=runesBytes a++runesBytes b:=by
 unfold runesBytes
 rw [List.foldl_append,foldl_enc b]
theorem joins_cut (s:ByteArray) (p:Nat) (h:p≤s.size):zkt (s.extract 0 p) (s.extract p s.size)=bdB s p:=by
 unfold zkt
 have e0:(s.extract 0 p).size=p:=by rw [ByteArray.size_extract];omega
 have e1:(s.extract p s.size).size=s.size - p:=by rw [ByteArray.size_extract];omega
 rw [e0,e1,ByteArray.extract_extract,ByteArray.extract_extract]
 symm
 refine bd_near s _ p _ h ?_ ?_ ?_ ?_
 ·rw [ByteArray.size_append,ByteArray.size_extract,ByteArray.size_extract];omega
 ·omega
 ·rw [ByteArray.size_append,ByteArray.size_extract,ByteArray.size_extract];omega
 ·intro i j hij hi hj h3 h4
  rw [ByteArray.size_append,ByteArray.size_extract,ByteArray.size_extract] at hj
  unfold bt
  rw [zef,ByteArray.size_extract]
  split
  ·rw [zbt _ _ _ _ (by omega) (by omega)]
   congr 2;omega
  ·rw [zbt _ _ _ _ (by omega) (by omega)]
   congr 2;omega
theorem zfN (s t:ByteArray):zkt s t=bdB (s++t) s.size:=by
 have:=joins_cut (s++t) s.size (by rw [ByteArray.size_append];omega)
 rw [ByteArray.extract_append_eq_left rfl,ByteArray.extract_append_eq_right rfl (by rw [ByteArray.size_append])] at this
 exact this
theorem zgp (s:ByteArray) (i:Nat) (h:bt s i / 64≠2):bdB s i=true:=by
 rw [zdu]
 intro n h4 h1 hn
 rcases Nat.lt_or_ge n (wd s (i - n)) with hx | hx
 ·have:=zhf s (i - n) n (by omega) hx
  rw [show i - n+n=i by omega] at this
  exact absurd this h
 ·exact hx
theorem zel (s:ByteArray):∀ f i,s.size≤i+f→bdB s i=true→∀ p,i≤p→p < s.size→bdB s p=true→p ∈ zaj s f i
 | 0,i,hf,hb,p,h1,h2,hp =>by omega
 | f+1,i,hf,hb,p,h1,h2,hp =>by
  have hi:i < s.size:=by omega
  have hw:=zbh s i
  have h4:=ze0 s i
  rw [zas s f i hi,List.mem_cons]
  by_cases e:p=i
  ·exact .inl e
  ·refine .inr ?_
   rcases Nat.lt_or_ge p (i+wd s i) with hlt | hge
   ·have:=(zdu s p).1 hp (p - i) (by omega) (by omega) (by omega)
    rw [show p - (p - i)=i by omega] at this
    omega
   ·exact zel s f (i+wd s i) (by omega) (zfn s i hb hi) p hge h2 hp
theorem zk3 (s:ByteArray) (p:Nat) (h:p < s.size) (hb:bdB s p=true):p ∈ zaw s:=zel s s.size 0 (by omega) (zdG s) p (Nat.zero_le _) h hb

theorem zcu (s t:ByteArray) (hv:∀ i ∈ zaw s,zbe s i=false):zkt s t=true:=by
 rw [zfN,zdu]
 intro n h4 h1 hn
 rcases Nat.lt_or_ge n (wd (s++t) (s.size - n)) with hx | hx
 ·exfalso
  have hi:s.size - n < s.size:=by omega
  have hl:=zdv (s++t) (s.size - n) (by omega)
  rw [zfm s t _ hi] at hl
  have hb:=hv _ (zk3 s _ hi (zgp s _ (by have:=zaX s (s.size - n);omega)))
  unfold zbe at hb
  have hg:=of_decide_eq_false hb
  have e:=zci s t (s.size - n) hi hg
  have hr:=zbC s (s.size - n) hi
  simp only [wd] at hx hr
  rw [e] at hx
  omega
 ·exact hx
end Go.Proofs.YtmdgejgokoadlaaGreatDoor
namespace Go.Proofs.YtmdgejgokoadlaaGreatDoor
open Go.RowKit Go.Shelf
set_option linter.unusedVariables false
def zca (c:Nat):Bool:=decide (c=9∨c=10∨c=13∨c=32)
def zaP (c:Nat):Bool:=decide (97≤c∧c≤122)
def zcr (c:Nat):Bool:=decide (48≤c∧c≤57)
def zcd (c:Nat):Bool:=zaP c || zcr c || decide (c=45)
def zdN (c:Nat):Bool:=zcd c || decide (65≤c∧c≤90) || decide (c=95)
def scanF (p:Nat→Bool):Nat→Nat→Nat
 | 0,n =>n
 | f+1,n =>if p n=true then scanF p f (n+1) else n
def za2 (p:Nat→Bool) (hi n:Nat):Nat:=scanF p (hi - n) n
theorem zbx {p:Nat→Bool} {hi n:Nat} (h:n < hi) (hp:p n=true):za2 p hi n=za2 p hi (n+1):=by
 unfold za2
 obtain ⟨f,hf⟩:∃ f,hi - n=f+1:=⟨hi - n - 1,by omega⟩
 rw [hf,show hi - (n+1)=f by omega,scanF,if_pos hp]
theorem zaC {p:Nat→Bool} {hi n:Nat} (h:¬ n < hi):za2 p hi n=n:=by
 unfold za2
 rw [show hi - n=0 by omega]
 rfl
theorem zbb {p:Nat→Bool} {hi n:Nat} (h:p n=false):za2 p hi n=n:=by
 unfold za2
 cases hi - n with
 | zero =>rfl
 | succ f =>rw [scanF,if_neg (by rw [h];decide)]
theorem zh7 (p:Nat→Bool) (hi:Nat):∀ k n,hi≤n+k→n≤za2 p hi n∧(n≤hi→za2 p hi n≤hi)
 | 0,n,h =>by rw [zaC (by omega)];exact ⟨Nat.le_refl _,fun h =>h⟩
 | k+1,n,h =>by
  by_cases hn:n < hi
  ·cases hp:p n with
   | true =>have:=zh7 p hi k (n+1) (by omega);rw [zbx hn hp];omega
   | false =>rw [zbb hp];exact ⟨Nat.le_refl _,fun h =>h⟩
  ·rw [zaC hn];exact ⟨Nat.le_refl _,fun h =>h⟩
theorem zbT (p:Nat→Bool) {hi n:Nat} (h:n≤hi):n≤za2 p hi n∧za2 p hi n≤hi:=by have:=zh7 p hi (hi - n) n (by omega);exact ⟨this.1,this.2 h⟩
def zao (t:ByteArray):Nat:=if t.size=0∨zaP (bt t 0)=false then 0 else za2 (fun n =>zcd (bt t n)) (min t.size 32) 1
theorem zdm (t:ByteArray):zao t≤t.size∧zao t≤32:=by
 unfold zao
 by_cases h:t.size=0∨zaP (bt t 0)=false
 ·rw [if_pos h];omega
 ·rw [if_neg h]
  have:=zbT (fun n =>zcd (bt t n)) (show 1≤min t.size 32 by omega)
  omega
def numF (t:ByteArray):Nat→Nat→Nat→Nat × Nat
 | 0,v,n =>(v,n)
 | f+1,v,n =>if n < t.size∧zcr (bt t n)=true∧0 < v∧v*10+(bt t n - 48)≤65535 then numF t f (v*10+(bt t n - 48)) (n+1) else (v,n)
def zcW (t:ByteArray) (v n:Nat):Nat × Nat:=numF t (t.size - n) v n
theorem zed {t:ByteArray} {v n:Nat} (h:n < t.size) (hd:zcr (bt t n)=true) (h0:0 < v) (hv:v*10+(bt t n - 48)≤65535):zcW t v n=zcW t (v*10+(bt t n - 48)) (n+1):=by
 unfold zcW
 obtain ⟨f,hf⟩:∃ f,t.size - n=f+1:=⟨t.size - n - 1,by omega⟩
 rw [hf,show t.size - (n+1)=f by omega,numF,if_pos ⟨h,hd,h0,hv⟩]
theorem za5 {t:ByteArray} {v n:Nat} (h:¬ (n < t.size∧zcr (bt t n)=true∧0 < v∧v*10+(bt t n - 48)≤65535)):zcW t v n=(v,n):=by
 unfold zcW
 cases t.size - n with
 | zero =>rfl
 | succ f =>rw [numF,if_neg h]
def zcH (t:ByteArray):Nat × Nat:=zcW t (bt t 0 - 48) 1
theorem zeK (t:ByteArray):∀ k v n,t.size≤n+k→n≤t.size→n≤(zcW t v n).2∧(zcW t v n).2≤t.size∧(v≤65535→(zcW t v n).1≤65535)
 | 0,v,n,h,hn =>by rw [za5 (by omega)];exact ⟨Nat.le_refl _,hn,fun h =>h⟩
 | k+1,v,n,h,hn =>by
  by_cases hc:n < t.size∧zcr (bt t n)=true∧0 < v∧v*10+(bt t n - 48)≤65535
  ·rw [zed hc.1 hc.2.1 hc.2.2.1 hc.2.2.2]
   have:=zeK t k (v*10+(bt t n - 48)) (n+1) (by omega) (by omega)
   exact ⟨by omega,this.2.1,fun _ =>this.2.2 hc.2.2.2⟩
  ·rw [za5 hc];exact ⟨Nat.le_refl _,hn,fun h =>h⟩
theorem zdC {c:Nat}:zcr c=true ↔ 48≤c∧c≤57:=by simp [zcr]
theorem ze4 {c:Nat}:zaP c=true ↔ 97≤c∧c≤122:=by simp [zaP]
theorem ret_b {a b:Bool} (h:a=b):Ending.returned (.bool a)=.returned (.bool b):=by rw [h]
theorem zes (c:Nat) (w:World):Calls Tryz.prog 137 #[.int .u8 (c:Int)] w fun e w' =>e=.returned (.bool (zca c))∧w'=w:=by
 go_enter Tryz.func137,Tryz.ntmps137
 go_wp2
 all_goals (go_ret;refine ⟨ret_b ?_,rfl⟩;first | (unfold zca;rw [Bool.eq_iff_iff];simp;omega) | (unfold zca;simp_all))
theorem zbG (c:Nat) (w:World):Calls Tryz.prog 98 #[.int .u8 (c:Int)] w fun e w' =>e=.returned (.bool (zaP c))∧w'=w:=by
 go_enter Tryz.func98,Tryz.ntmps98
 go_wp2
 all_goals (go_ret;refine ⟨ret_b ?_,rfl⟩;first | (unfold zaP;rw [Bool.eq_iff_iff];simp;omega) | (unfold zaP;simp_all))
theorem za7 (c:Nat) (w:World):Calls Tryz.prog 99 #[.int .u8 (c:Int)] w fun e w' =>e=.returned (.bool (zcr c))∧w'=w:=by
 go_enter Tryz.func99,Tryz.ntmps99
 go_wp2
 all_goals (go_ret;refine ⟨ret_b ?_,rfl⟩;first | (unfold zcr;rw [Bool.eq_iff_iff];simp;omega) | (unfold zcr;simp_all))
theorem zdn (c:Nat) (w:World):Calls Tryz.prog 140 #[.int .u8 (c:Int)] w fun e w' =>e=.returned (.bool (zcd c))∧w'=w:=by
 go_enter Tryz.func140,Tryz.ntmps140
 go_wp2_with (first | (go_at_call 98;refine (zbG c _).mono ?_;rintro e w' ⟨rfl,rfl⟩) | (go_at_call 99;refine (za7 c _).mono ?_;rintro e w' ⟨rfl,rfl⟩))
 all_goals (go_ret;refine ⟨ret_b ?_,rfl⟩;first | (unfold zcd;rw [Bool.eq_iff_iff];simp;omega) | (unfold zcd;simp_all;done) | (unfold zcd;simp_all;rw [Bool.eq_iff_iff];simp;omega))
theorem zk2 (c:Nat) (w:World):Calls Tryz.prog 105 #[.int .u8 (c:Int)] w fun e w' =>e=.returned (.bool (zdN c))∧w'=w:=by
 go_enter Tryz.func105,Tryz.ntmps105
 go_wp2_with (go_at_call 140;refine (zdn c _).mono ?_;rintro e w' ⟨rfl,rfl⟩)
 all_goals (go_ret;refine ⟨ret_b ?_,rfl⟩;first | (unfold zdN;rw [Bool.eq_iff_iff];simp;omega) | (unfold zdN;simp_all;done) | (unfold zdN;simp_all;rw [Bool.eq_iff_iff];simp;omega))
end Go.Proofs.YtmdgejgokoadlaaGreatDoor
namespace Go.Proofs.YtmdgejgokoadlaaGreatDoor
open Go.Lib (decode_at)
set_option linter.unusedVariables false

def zay (c:Nat):Nat × Nat :=
 if c < 194 then (0,0) else if c < 224 then (128,191) else if c=224 then (160,191) else if c < 237 then (128,191) else if c=237 then (128,159) else if c < 240 then (128,191)
 else if c=240 then (144,191) else if c < 244 then (128,191) else if c=244 then (128,143) else (0,0)

theorem zep (c:Nat) (h:(zay c).1≠0):(194≤c∧c < 224∧zay c=(128,191))∨(c=224∧zay c=(160,191))∨(((225≤c∧c < 237)∨(238≤c∧c < 240))∧zay c=(128,191))∨(c=237∧zay c=(128,159)) ∨
  (c=240∧zay c=(144,191))∨(241≤c∧c < 244∧zay c=(128,191))∨(c=244∧zay c=(128,143)):=by
 unfold zay at h ⊢
 repeat' split at h
 all_goals simp_all
 all_goals omega

def zcb (b0:Nat):Nat:=if b0 < 224 then 2 else if b0 < 240 then 3 else 4
theorem zbW (b0:Nat):zcb b0=2∨zcb b0=3∨zcb b0=4:=by
 unfold zcb
 repeat' split
 all_goals simp
def zc5 (b0:Nat):Nat:=if b0 < 224 then b0 % 32 else if b0 < 240 then b0 % 16 else b0 % 8
def zek (t:ByteArray):Nat→Nat
 | 0 =>0
 | 1 =>zc5 (bt t 0)
 | k+2 =>zek t (k+1)*64+bt t (k+1) % 64

theorem acc_step (t:ByteArray) (k:Nat) (h:1≤k):zek t (k+1)=zek t k*64+bt t k % 64:=by
 obtain ⟨j,rfl⟩:∃ j,k=j+1:=⟨k - 1,by omega⟩
 rfl

def seqV (t:ByteArray):Int × Int:=if t.size=0∨(rn t 0=65533∧wd t 0=1) then (0,0) else (wd t 0,rn t 0)
theorem zaz (t:ByteArray) (k:Nat) (h:k < t.size):bt t k=(t[k]'h).toNat:=by unfold bt;rw [zcy t k h];rfl

theorem zk5 (t:ByteArray) (h:0 < t.size) (hb:bt t 0 < 128):seqV t=(1,(bt t 0:Int)):=by
 have e:Utf8.decode t 0=(bt t 0,1):=by rw [decode_at];unfold Lib.decodeN;rw [if_pos hb]
 unfold seqV
 rw [if_neg (by simp only [rn,wd,e];omega)]
 simp only [rn,wd,e]
 rfl
theorem zja (t:ByteArray) (h:0 < t.size) (hb:128≤bt t 0) (x:Nat × Nat) (e:Lib.decodeN (t.size - 0) (bt t 0) (bt t 1) (bt t 2) (bt t 3)=x):seqV t=if x.1=65533∧x.2=1 then (0,0) else ((x.2:Int),(x.1:Int)):=by
 have e':Utf8.decode t 0=x:=by rw [decode_at];exact e
 unfold seqV
 simp only [rn,wd,e']
 have:¬ t.size=0:=by omega
 simp only [this,false_or]
theorem zfA (n b0 b1 b2 b3:Nat) (h:128≤b0) (h0:b0 < 256) (hs:(zay b0).1=0):Lib.decodeN n b0 b1 b2 b3=(65533,1):=by
 have hc:b0 < 194∨245≤b0:=by
  unfold zay at hs
  repeat' split at hs
  all_goals simp at hs
  all_goals omega
 unfold Lib.decodeN
 repeat' split
 all_goals first | rfl | (exfalso;omega)
theorem zd6 (n b0 b1 b2 b3:Nat) (hn:1≤n) (h1:b1 < 256) (h2:b2 < 256) (h3:b3 < 256) (hs:(zay b0).1≠0) :
  Lib.decodeN n b0 b1 b2 b3=Lib.slowN n b0 b1 b2 b3 (zcb b0) (zay b0).1 (zay b0).2:=by
 rcases zep b0 hs with ⟨a,b,e⟩ | ⟨a,e⟩ | ⟨a,e⟩ | ⟨a,e⟩ | ⟨a,e⟩ | ⟨a,b,e⟩ | ⟨a,e⟩
 ·rw [e,show zcb b0=2 by unfold zcb;rw [if_pos (by omega)]];exact (Lib.slow_C2 n b0 b1 b2 b3 hn h1 h2 h3 (by omega)).symm
 ·rw [e,show zcb b0=3 by unfold zcb;rw [if_neg (by omega),if_pos (by omega)]];exact (Lib.slow_E0 n b0 b1 b2 b3 hn h1 h2 h3 (by omega)).symm
 ·rw [e,show zcb b0=3 by unfold zcb;rw [if_neg (by omega),if_pos (by omega)]];exact (Lib.slow_E1 n b0 b1 b2 b3 hn h1 h2 h3 (by omega)).symm
 ·rw [e,show zcb b0=3 by unfold zcb;rw [if_neg (by omega),if_pos (by omega)]];exact (Lib.slow_ED n b0 b1 b2 b3 hn h1 h2 h3 (by omega)).symm
 ·rw [e,show zcb b0=4 by unfold zcb;rw [if_neg (by omega),if_neg (by omega)]];exact (Lib.slow_F0 n b0 b1 b2 b3 hn h1 h2 h3 (by omega)).symm
 ·rw [e,show zcb b0=4 by unfold zcb;rw [if_neg (by omega),if_neg (by omega)]];exact (Lib.slow_F1 n b0 b1 b2 b3 hn h1 h2 h3 (by omega)).symm
 ·rw [e,show zcb b0=4 by unfold zcb;rw [if_neg (by omega),if_neg (by omega)]];exact (Lib.slow_F4 n b0 b1 b2 b3 hn h1 h2 h3 (by omega)).symm
def Goes (t:ByteArray) (k:Nat):Prop := ∀ j,1≤j→j < k→j < t.size∧128≤bt t j∧bt t j≤191

theorem seqV_none (t:ByteArray) (h:0 < t.size) (hb:128≤bt t 0) (hs:(zay (bt t 0)).1=0):seqV t=(0,0):=by
 rw [zja t h hb _ (zfA _ _ _ _ _ hb (zaX t 0) hs),if_pos ⟨rfl,rfl⟩]
theorem seqV_bad (t:ByteArray) (h:0 < t.size) (hb:128≤bt t 0) (hs:(zay (bt t 0)).1≠0)
  (hx:t.size < 2∨bt t 1 < (zay (bt t 0)).1∨(zay (bt t 0)).2 < bt t 1∨∃ k,1≤k∧k < zcb (bt t 0)∧(t.size≤k∨bt t k < 128∨191 < bt t k)):seqV t=(0,0):=by
 rw [zja t h hb _ (zd6 _ _ _ _ _ (by omega) (zaX t _) (zaX t _) (zaX t _) hs)]
 have hz:zcb (bt t 0)=2∨zcb (bt t 0)=3∨zcb (bt t 0)=4:=zbW _
 have hlo:128≤(zay (bt t 0)).1∧(zay (bt t 0)).2≤191:=by
  rcases zep _ hs with ⟨a,b,e⟩ | ⟨a,e⟩ | ⟨a,e⟩ | ⟨a,e⟩ | ⟨a,e⟩ | ⟨a,b,e⟩ | ⟨a,e⟩ <;> rw [e] <;> simp
 have:Lib.slowN (t.size - 0) (bt t 0) (bt t 1) (bt t 2) (bt t 3) (zcb (bt t 0)) (zay (bt t 0)).1 (zay (bt t 0)).2=(65533,1):=by
  generalize (zay (bt t 0)).1=lo at *
  generalize (zay (bt t 0)).2=hi at *
  generalize zcb (bt t 0)=z at *
  have hx':t.size < 2∨bt t 1 < lo∨hi < bt t 1∨(t.size < z)∨(3≤z∧(bt t 2 < 128∨191 < bt t 2))∨(4≤z∧(bt t 3 < 128∨191 < bt t 3)):=by
   rcases hx with h | h | h | ⟨k,h1,h2,h3⟩
   ·exact .inl h
   ·exact .inr (.inl h)
   ·exact .inr (.inr (.inl h))
   ·rcases h3 with h3 | h3
    ·exact .inr (.inr (.inr (.inl (by omega))))
    ·have hk:k=1∨k=2∨k=3:=by omega
     rcases hk with rfl | rfl | rfl
     ·omega
     ·exact .inr (.inr (.inr (.inr (.inl ⟨by omega,h3⟩))))
     ·exact .inr (.inr (.inr (.inr (.inr ⟨by omega,h3⟩))))
  clear hx
  unfold Lib.slowN
  repeat' split
  all_goals first | rfl | (exfalso;omega)
 rw [this,if_pos ⟨rfl,rfl⟩]
theorem seqV_good (t:ByteArray) (h:0 < t.size) (hb:128≤bt t 0) (hs:(zay (bt t 0)).1≠0) (h1:(zay (bt t 0)).1≤bt t 1) (h2:bt t 1≤(zay (bt t 0)).2) (hg:Goes t (zcb (bt t 0))) :
  seqV t=((zcb (bt t 0):Int),(zek t (zcb (bt t 0)):Int)):=by
 rw [zja t h hb _ (zd6 _ _ _ _ _ (by omega) (zaX t _) (zaX t _) (zaX t _) hs)]
 have hz:(zcb (bt t 0)=2∧zc5 (bt t 0)=bt t 0 % 32)∨(zcb (bt t 0)=3∧zc5 (bt t 0)=bt t 0 % 16)∨(zcb (bt t 0)=4∧zc5 (bt t 0)=bt t 0 % 8):=by
  unfold zcb zc5;repeat' split
  all_goals simp
 generalize (zay (bt t 0)).1=lo at *
 generalize (zay (bt t 0)).2=hi at *
 rcases hz with ⟨e,l⟩ | ⟨e,l⟩ | ⟨e,l⟩
 ·have g1:=hg 1 (by omega) (by omega)
  rw [e]
  have:Lib.slowN (t.size - 0) (bt t 0) (bt t 1) (bt t 2) (bt t 3) 2 lo hi=(bt t 0 % 32*64+bt t 1 % 64,2):=by
   unfold Lib.slowN
   repeat' split
   all_goals first | (exfalso;omega) | rfl
  rw [this,if_neg (by simp),show zek t 2=zc5 (bt t 0)*64+bt t 1 % 64 from rfl,l]
 ·have g1:=hg 1 (by omega) (by omega)
  have g2:=hg 2 (by omega) (by omega)
  rw [e]
  have:Lib.slowN (t.size - 0) (bt t 0) (bt t 1) (bt t 2) (bt t 3) 3 lo hi=(bt t 0 % 16*4096+bt t 1 % 64*64+bt t 2 % 64,3):=by
   unfold Lib.slowN
   repeat' split
   all_goals first | (exfalso;omega) | rfl
  rw [this,if_neg (by simp),show zek t 3=(zc5 (bt t 0)*64+bt t 1 % 64)*64+bt t 2 % 64 from rfl,l]
  rw [Prod.mk.injEq]
  exact ⟨rfl,by omega⟩
 ·have g1:=hg 1 (by omega) (by omega)
  have g2:=hg 2 (by omega) (by omega)
  have g3:=hg 3 (by omega) (by omega)
  rw [e]
  have:Lib.slowN (t.size - 0) (bt t 0) (bt t 1) (bt t 2) (bt t 3) 4 lo hi=(bt t 0 % 8*262144+bt t 1 % 64*4096+bt t 2 % 64*64+bt t 3 % 64,4):=by
   unfold Lib.slowN
   repeat' split
   all_goals first | (exfalso;omega) | rfl
  rw [this,if_neg (by simp),show zek t 4=((zc5 (bt t 0)*64+bt t 1 % 64)*64+bt t 2 % 64)*64+bt t 3 % 64 from rfl,l]
  rw [Prod.mk.injEq]
  exact ⟨rfl,by omega⟩
end Go.Proofs.YtmdgejgokoadlaaGreatDoor
